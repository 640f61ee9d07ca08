import Derived.Test.YtofidnijfnhpaaaGreatDoorQ01
import Derived.Test.YtofidnijfnhpaaaGreatDoorQ33
set_option linter.unusedSimpArgs false
set_option linter.unusedVariables false
set_option linter.unusedSectionVars false
set_option maxRecDepth 1000000
set_option maxHeartbeats 16000000
namespace Go.Proofs.YtofidnijfnhpaaaGreatDoor
open Go.RowKit
theorem Qhz (hb ho bI b o n c oc:Nat) (oa:Option Addr) (cs:List Cl) (ss:List ByteArray) (j:Jb) (w:World) (bH:hb<w.heap.size) (h0:w.cell? ⟨hb,ho,none⟩=some (.slice (some ⟨b,o,none⟩) n c)) (bq:QaX w j.cols ss) (cN:ss.length<=100) (hn:cs.length=n) (cG:1<=n) (cO:n<=40) (cU:n<=c) (aP:b<w.heap.size) (hc:Qas w b o cs) (hsz:∀x∈cs,x.1.size<=maxLen) (a9:j.code=9) (hj:j.outs=.slice oa 2 oc) (hE:Env w) (cr:j.op.size<=1000000) (b5:j.right.2.2.2.size<=maxLen):
 Calls Tryz.prog 9 #[.agg j.cells,.slice (some ⟨hb,ho,none⟩) 1 bI] w fun e w'=>QaO e w' w.heap.size (Qax cs j) [cs,cs]/\Below w.heap.size w w':=by
 have cP:=mkF
 obtain⟨sv,bi⟩:∃q,j.cols=q:=⟨_,rfl⟩
 obtain⟨sa,sc,rfl,cI,cH,aX⟩:=bi▸bq
 have bL:=fun V (h:Below w.heap.size w V)=>Qcl b o n c cs j.right V hn (by omega) (by have:=h.size;omega) (hc.below h aP) b5
 have ck:=Hk bL
 have b4:=Hk (fun V (h:Below w.heap.size w V)=>Qfo j.op V (hE.below h) cr)
 have b6:=Hk (fun V (h:Below w.heap.size w V)=>Qdw b o n c cs j.left.1 V hn (by omega) (by have:=h.size;omega) (hc.below h aP))
 clear bL
 have HX:=Hk (Ai hn (Ai hc (Ai hsz (Ai h0 bq))))
 refine Qa6 hb ho 1 bI 2 ss.length sc oc n c oa sa (some ⟨b,o,none⟩) j w bH h0 (by rw[a9];rfl) (by decide) hj bi _ ?_
 iterate 226 intro _
 intro A N wc av
 clear bq h0 hn hc hsz aX
 have HW:=Hk av.bel
 have ca:=av.big
 have aO:w.heap.size<wc.heap.size:=by omega
 have cV:hb<wc.heap.size:=by omega
 have a0:=av.a0
 have m0:=av.m0
 have bM:=av.Al
 have cW:=av.Nl
 have cL:=av.A0
 have cS:=av.N0
 have aL:=Hk (show∀k v,(#[.int .i64 j.at_,.int .i64 9,.slice oa 2 oc,j.ins,.slice sa ss.length sc,.string j.op,.string j.left.1,.int .i64 j.left.2.1,.int .i64 j.left.2.2.1,.string j.left.2.2.2,.string j.right.1,.int .i64 j.right.2.1,.int .i64 j.right.2.2.1,.string j.right.2.2.2,.int .i64 j.retry]:Array Value)[k]? =some v->wc.cell? ⟨w.heap.size,k,none⟩=some v from fun k v hk=>av.job k v (by unfold Jb.cells;rw[hj,a9,bi];exact hk))
 have f0:=cK HW.out bH HX.out.2.2.2.1
 clear av
 conv=>arg 2;whnf
 have j1:wc.cell? ⟨w.heap.size,1,none⟩=some (.int .i64 9):=aL.out 1 _ rfl
 have cp:=Hk (show∀V,Below w.heap.size w V->Qav V (.slice (some ⟨b,o,none⟩) n c) cs from fun V h=>⟨some ⟨b,o,none⟩,c,by rw[HX.out.1],by have:=HX.out.1;omega,HX.out.2.2.1,Or.inr ⟨b,o,rfl,by have:=h.size;omega,HX.out.2.1.below h aP⟩⟩)
 have q5:wc.cell? ⟨w.heap.size,5,none⟩=some (.string j.op):=aL.out 5 _ rfl
 have q6:wc.cell? ⟨w.heap.size,6,none⟩=some (.string j.left.1):=aL.out 6 _ rfl
 have bN:wc.cell? ⟨w.heap.size,10,none⟩=some (.string j.right.1):=aL.out 10 _ rfl
 have bx:wc.cell? ⟨w.heap.size,11,none⟩=some (.int .i64 j.right.2.1):=aL.out 11 _ rfl
 have bB:wc.cell? ⟨w.heap.size,12,none⟩=some (.int .i64 j.right.2.2.1):=aL.out 12 _ rfl
 have bJ:wc.cell? ⟨w.heap.size,13,none⟩=some (.string j.right.2.2.2):=aL.out 13 _ rfl
 have cJ:Qax cs j=Qax cs j:=rfl
 go_upto_region 16 with (go_at_call 19;refine(b6.out _ (Qad HW.out _)).mono ?_;rintro e w3 ⟨rfl,ba⟩)
 obtain⟨y,az⟩:∃q,q=w3.alloc (.cells #[.int .i64 1,.int .i64 7,.int .i64 13] 40):=⟨_,rfl⟩
 rw[<-az]
 have aX:=ba.size
 simp at aX
 have e0:y.cell? ⟨w3.heap.size,0,none⟩=some (.int .i64 1):=by rw[az];simp
 have e1:y.cell? ⟨w3.heap.size,1,none⟩=some (.int .i64 7):=by rw[az];simp
 have e2:y.cell? ⟨w3.heap.size,2,none⟩=some (.int .i64 13):=by rw[az];simp
 have bK:y.heap.size=w3.heap.size+1:=by rw[az];simp
 have au:Below wc.heap.size wc y:=by rw[az];exact Qad (Qaa (Qab _ _) ba) _
 have cj:=Hk (show y.ownsRow (w.heap.size+1) 33 1 (.slice (some ⟨wc.heap.size,0,none⟩) 1 1) 1 [.slice (some ⟨b,o,none⟩) n c] by rw[az];exact(Qaf (QjJ wc _ _ _ _ rfl ca) ba).alloc _)
 clear az ba
 have aQ:=Hk (Qaa HW.out au)
 have bE:=Hk au
 have bQ:=Hk (Ai e0 (Ai e1 e2))
 have KS:=Hk (fun V (h:Below y.heap.size y V)=>(Ai ((Qaa au h).cell (p:=⟨w.heap.size,5,none⟩) aO|>.trans q5) (Ai ((Qaa au h).cell (p:=⟨w.heap.size,6,none⟩) aO|>.trans q6) (Ai ((Qaa au h).cell (p:=⟨A,0,none⟩) bM|>.trans a0) (Ai ((Qaa au h).cell (p:=⟨w.heap.size,10,none⟩) aO|>.trans bN) (Ai ((Qaa au h).cell (p:=⟨w.heap.size,11,none⟩) aO|>.trans bx) (Ai ((Qaa au h).cell (p:=⟨w.heap.size,12,none⟩) aO|>.trans bB) ((Qaa au h).cell (p:=⟨w.heap.size,13,none⟩) aO|>.trans bJ))))))))
 have aA:=Hk (fun V (h:Below y.heap.size y V)=>b4.out V (Qaa aQ.out h))
 have ax:=Hk (fun V (h:Below y.heap.size y V)=>ck.out V (Qaa aQ.out h))
 have bz:=Hk (Ai bK aX)
 have ct:=Hk a0
 clear e0 e1 e2 au q5 q6 bN bx bB bJ a0 m0 f0 aX bK
 generalize wc=wq at*
 clear wc
 obtain⟨PI,bf⟩:∃q,Qaq cs j.left.1.data.toList=q:=⟨_,rfl⟩
 rw[bf]
 have ad:=Hk bf
 clear bf
 go_cut [15] (fun v wx=>∃kk:Int,v=.int .i64 kk/\Qdy (Qax cs j) kk/\Below y.heap.size y wx)
 case first=>
  have ac:=Hk (show Qax cs j=if inS Qa3 j.op.data.toList=false\/j.left.1.data.toList=[] then 1 else match Qak cs j.left.1.data.toList with |none=>7|some i=>if QaI cs j.right=(cs[i]?.getD (⟨#[]⟩,0)).2 then 0 else 13 by unfold Qax;rfl)
  cases o1:inS Qa3 j.op.data.toList
  ·rw[o1] at aA
   cases hp:Qak cs j.left.1.data.toList with
   |none=>
    have U:=Hk (show Qdy (Qax cs j) 0 from Or.inl ⟨by rw[ac.out,if_pos (Or.inl o1)],rfl⟩)
    have am:PI= -1:=by rw[<-ad.out];exact QaM hp
    subst am
    clear hp ac ad
    obtain⟨Z,M,za,I,J,F,D⟩:=KS.out y (Below.refl _ _)
    have r5:=cell_regrown Z
    have r6:=cell_regrown M
    have ra:=cell_regrown za
    have ai:=cell_regrown I
    have ap:=cell_regrown J
    have ag:=cell_regrown F
    have ao:=cell_regrown D
    skip
    clear Z M za I J F D
    have T:=fun d os=>Calls.regrown_of ((aA.out (Sort.grow (redrawn y d) os) (below_regrown y d os)).mono fun e w' ⟨h1,h2⟩=>⟨h1,h2▸Below.refl _ _⟩)
    have K:=fun d os=>Calls.regrown_of (ax.out (Sort.grow (redrawn y d) os) (below_regrown y d os))
    refine wp_region_tail 27 (by kernel_rfl) (by kernel_rfl) rfl (Or.inl ⟨rfl,fun _=>rfl⟩) (fun _ _ _ h=>h) ?_
    simp only[List.drop_succ_cons,List.drop_zero,List.take_succ_cons,List.take_zero]
    repeat(any_goals(first|go_big_quiet_step (first|exact T _ _|exact K _ _)|quiet_step (first|exact T _ _|exact K _ _)))
    refine wpQuiet_nil ?_
    intro w8 ar
    obtain⟨⟨dq,E⟩,rfl⟩:=ar
    have af:=below_regrown y dq E
    clear r5 r6 ra ai ap ag ao T K
    generalize Sort.grow (redrawn y dq) E=W8 at*
    go_wp2_with (first|(go_at_call 20;refine(QaD true true false (0) rfl _ _ (by simp) (by simp) (by simp)).mono ?_;rintro e w6 ⟨rfl,z⟩;subst z)|(go_at_fn 20;refine(QaD true true false (0) rfl _ _ (by simp) (by simp) (by simp)).mono ?_;rintro e w6 ⟨rfl,z⟩;subst z))
    go_meet
    exact⟨0,rfl,U.out,Qad af _⟩
   |some i=>
    have aB:=Qaj hp
    have bA:(i:Int)<(n:Int):=by have:=HX.out.1;omega
    have bC:(0:Int)<=(i:Int):=by omega
    have bo:max (i:Int) 0=(i:Int):=by omega
    have a8:max 0 (i:Int)=(i:Int):=by omega
    obtain⟨kx,ae⟩:∃q,cs[i].2=q:=⟨_,rfl⟩
    obtain⟨kr,ah⟩:∃q,QaI cs j.right=q:=⟨_,rfl⟩
    have KT:=Hk (fun V (h:Below y.heap.size y V)=>(by have:=KS.out V h;obtain⟨z1,z2,z3,z4,Z,M,z7⟩:=this;exact Ai z1 (Ai z2 (Ai z3 (Ai z4 (Ai Z (Ai M (Ai z7 (((Qaa aQ.out h).cell (p:=⟨b,o+i*2+1,none⟩) aP).trans (by rw[(HX.out.2.1 i aB).2,ae])))))))):V.cell? ⟨w.heap.size,5,none⟩=some (Value.string j.op)/\V.cell? ⟨w.heap.size,6,none⟩=some (Value.string j.left.1)/\V.cell? ⟨A,0,none⟩=some (Value.slice (some ⟨b,o,none⟩) n c)/\V.cell? ⟨w.heap.size,10,none⟩=some (Value.string j.right.1)/\V.cell? ⟨w.heap.size,11,none⟩=some (Value.int .i64 j.right.2.1)/\V.cell? ⟨w.heap.size,12,none⟩=some (Value.int .i64 j.right.2.2.1)/\V.cell? ⟨w.heap.size,13,none⟩=some (Value.string j.right.2.2.2)/\V.cell? ⟨b,o+i*2+1,none⟩=some (Value.int .i64 kx)))
    have aG:=Hk (show(if QaI cs j.right=(cs[i]?.getD (⟨#[]⟩,0)).2 then(0:Int) else 13)=if kr=kx then 0 else 13 by rw[ah];simp only[List.getElem?_eq_getElem aB,Option.getD_some,ae])
    rw[ah] at ax
    have am:PI=(i:Int):=by rw[<-ad.out];exact Qaw hp
    subst am
    have HP:=Hk hp
    clear hp ah ae ad
    have U:=Hk (show Qdy (Qax cs j) (0) from Or.inl ⟨by rw[ac.out,if_pos (Or.inl o1)],rfl⟩)
    clear aG ac HP
    obtain⟨Z,M,za,I,J,F,D,zk⟩:=KT.out y (Below.refl _ _)
    have r5:=cell_regrown Z
    have r6:=cell_regrown M
    have ra:=cell_regrown za
    have ai:=cell_regrown I
    have ap:=cell_regrown J
    have ag:=cell_regrown F
    have ao:=cell_regrown D
    have rk:=cell_regrown zk
    clear Z M za I J F D zk
    have T:=fun d os=>Calls.regrown_of ((aA.out (Sort.grow (redrawn y d) os) (below_regrown y d os)).mono fun e w' ⟨h1,h2⟩=>⟨h1,h2▸Below.refl _ _⟩)
    have K:=fun d os=>Calls.regrown_of (ax.out (Sort.grow (redrawn y d) os) (below_regrown y d os))
    refine wp_region_tail 27 (by kernel_rfl) (by kernel_rfl) rfl (Or.inl ⟨rfl,fun _=>rfl⟩) (fun _ _ _ h=>h) ?_
    simp only[List.drop_succ_cons,List.drop_zero,List.take_succ_cons,List.take_zero]
    repeat(any_goals(first|go_big_quiet_step (first|exact T _ _|exact K _ _)|quiet_step (first|exact T _ _|exact K _ _)))
    refine wpQuiet_nil ?_
    intro w8 ar
    obtain⟨⟨dq,E⟩,rfl⟩:=ar
    have af:=below_regrown y dq E
    clear r5 r6 ra ai ap ag ao T K rk
    generalize Sort.grow (redrawn y dq) E=W8 at*
    go_wp2_with (first|(go_at_call 20;refine(QaD true false (kr != kx) (0) (by cases (kr != kx)<;>rfl) _ _ (by simp) (by simp) (by simp)).mono ?_;rintro e w6 ⟨rfl,z⟩;subst z)|(go_at_fn 20;refine(QaD true false (kr != kx) (0) (by cases (kr != kx)<;>rfl) _ _ (by simp) (by simp) (by simp)).mono ?_;rintro e w6 ⟨rfl,z⟩;subst z))
    go_meet
    exact⟨0,rfl,U.out,Qad af _⟩
  ·rw[o1] at aA
   by_cases hle:j.left.1.data.toList=[]
   ·have cv:j.left.1.toList.isEmpty=true:=by rw[ByteArray.toList_eq,hle];rfl
    cases hp:Qak cs j.left.1.data.toList with
    |none=>
     have U:=Hk (show Qdy (Qax cs j) 0 from Or.inl ⟨by rw[ac.out,if_pos (Or.inr hle)],rfl⟩)
     have am:PI= -1:=by rw[<-ad.out];exact QaM hp
     subst am
     clear hp ac ad
     obtain⟨Z,M,za,I,J,F,D⟩:=KS.out y (Below.refl _ _)
     have r5:=cell_regrown Z
     have r6:=cell_regrown M
     have ra:=cell_regrown za
     have ai:=cell_regrown I
     have ap:=cell_regrown J
     have ag:=cell_regrown F
     have ao:=cell_regrown D
     skip
     clear Z M za I J F D
     have T:=fun d os=>Calls.regrown_of ((aA.out (Sort.grow (redrawn y d) os) (below_regrown y d os)).mono fun e w' ⟨h1,h2⟩=>⟨h1,h2▸Below.refl _ _⟩)
     have K:=fun d os=>Calls.regrown_of (ax.out (Sort.grow (redrawn y d) os) (below_regrown y d os))
     refine wp_region_tail 27 (by kernel_rfl) (by kernel_rfl) rfl (Or.inl ⟨rfl,fun _=>rfl⟩) (fun _ _ _ h=>h) ?_
     simp only[List.drop_succ_cons,List.drop_zero,List.take_succ_cons,List.take_zero]
     repeat(any_goals(first|go_big_quiet_step (first|exact T _ _|exact K _ _)|quiet_step (first|exact T _ _|exact K _ _)))
     refine wpQuiet_nil ?_
     intro w8 ar
     obtain⟨⟨dq,E⟩,rfl⟩:=ar
     have af:=below_regrown y dq E
     clear r5 r6 ra ai ap ag ao T K
     generalize Sort.grow (redrawn y dq) E=W8 at*
     go_wp2_with (first|(go_at_call 20;refine(QaD true true false (0) rfl _ _ (by simp) (by simp) (by simp)).mono ?_;rintro e w6 ⟨rfl,z⟩;subst z)|(go_at_fn 20;refine(QaD true true false (0) rfl _ _ (by simp) (by simp) (by simp)).mono ?_;rintro e w6 ⟨rfl,z⟩;subst z))
     go_meet
     exact⟨0,rfl,U.out,Qad af _⟩
    |some i=>
     have aB:=Qaj hp
     have bA:(i:Int)<(n:Int):=by have:=HX.out.1;omega
     have bC:(0:Int)<=(i:Int):=by omega
     have bo:max (i:Int) 0=(i:Int):=by omega
     have a8:max 0 (i:Int)=(i:Int):=by omega
     obtain⟨kx,ae⟩:∃q,cs[i].2=q:=⟨_,rfl⟩
     obtain⟨kr,ah⟩:∃q,QaI cs j.right=q:=⟨_,rfl⟩
     have KT:=Hk (fun V (h:Below y.heap.size y V)=>(by have:=KS.out V h;obtain⟨z1,z2,z3,z4,Z,M,z7⟩:=this;exact Ai z1 (Ai z2 (Ai z3 (Ai z4 (Ai Z (Ai M (Ai z7 (((Qaa aQ.out h).cell (p:=⟨b,o+i*2+1,none⟩) aP).trans (by rw[(HX.out.2.1 i aB).2,ae])))))))):V.cell? ⟨w.heap.size,5,none⟩=some (Value.string j.op)/\V.cell? ⟨w.heap.size,6,none⟩=some (Value.string j.left.1)/\V.cell? ⟨A,0,none⟩=some (Value.slice (some ⟨b,o,none⟩) n c)/\V.cell? ⟨w.heap.size,10,none⟩=some (Value.string j.right.1)/\V.cell? ⟨w.heap.size,11,none⟩=some (Value.int .i64 j.right.2.1)/\V.cell? ⟨w.heap.size,12,none⟩=some (Value.int .i64 j.right.2.2.1)/\V.cell? ⟨w.heap.size,13,none⟩=some (Value.string j.right.2.2.2)/\V.cell? ⟨b,o+i*2+1,none⟩=some (Value.int .i64 kx)))
     have aG:=Hk (show(if QaI cs j.right=(cs[i]?.getD (⟨#[]⟩,0)).2 then(0:Int) else 13)=if kr=kx then 0 else 13 by rw[ah];simp only[List.getElem?_eq_getElem aB,Option.getD_some,ae])
     rw[ah] at ax
     have am:PI=(i:Int):=by rw[<-ad.out];exact Qaw hp
     subst am
     have HP:=Hk hp
     clear hp ah ae ad
     have U:=Hk (show Qdy (Qax cs j) (0) from Or.inl ⟨by rw[ac.out,if_pos (Or.inr hle)],rfl⟩)
     clear aG ac HP
     obtain⟨Z,M,za,I,J,F,D,zk⟩:=KT.out y (Below.refl _ _)
     have r5:=cell_regrown Z
     have r6:=cell_regrown M
     have ra:=cell_regrown za
     have ai:=cell_regrown I
     have ap:=cell_regrown J
     have ag:=cell_regrown F
     have ao:=cell_regrown D
     have rk:=cell_regrown zk
     clear Z M za I J F D zk
     have T:=fun d os=>Calls.regrown_of ((aA.out (Sort.grow (redrawn y d) os) (below_regrown y d os)).mono fun e w' ⟨h1,h2⟩=>⟨h1,h2▸Below.refl _ _⟩)
     have K:=fun d os=>Calls.regrown_of (ax.out (Sort.grow (redrawn y d) os) (below_regrown y d os))
     refine wp_region_tail 27 (by kernel_rfl) (by kernel_rfl) rfl (Or.inl ⟨rfl,fun _=>rfl⟩) (fun _ _ _ h=>h) ?_
     simp only[List.drop_succ_cons,List.drop_zero,List.take_succ_cons,List.take_zero]
     repeat(any_goals(first|go_big_quiet_step (first|exact T _ _|exact K _ _)|quiet_step (first|exact T _ _|exact K _ _)))
     refine wpQuiet_nil ?_
     intro w8 ar
     obtain⟨⟨dq,E⟩,rfl⟩:=ar
     have af:=below_regrown y dq E
     clear r5 r6 ra ai ap ag ao T K rk
     generalize Sort.grow (redrawn y dq) E=W8 at*
     go_wp2_with (first|(go_at_call 20;refine(QaD true false (kr != kx) (0) (by cases (kr != kx)<;>rfl) _ _ (by simp) (by simp) (by simp)).mono ?_;rintro e w6 ⟨rfl,z⟩;subst z)|(go_at_fn 20;refine(QaD true false (kr != kx) (0) (by cases (kr != kx)<;>rfl) _ _ (by simp) (by simp) (by simp)).mono ?_;rintro e w6 ⟨rfl,z⟩;subst z))
     go_meet
     exact⟨0,rfl,U.out,Qad af _⟩
   ·have cv:j.left.1.toList.isEmpty=false:=by
     rw[ByteArray.toList_eq]
     cases h:j.left.1.data.toList with
     |nil=>exact absurd h hle
     |cons a q=>rfl
    have a4:¬(inS Qa3 j.op.data.toList=false\/j.left.1.data.toList=[]):=by
     rintro(h|h)
     ·rw[o1] at h;cases h
     ·exact hle h
    cases hp:Qak cs j.left.1.data.toList with
    |none=>
     have U:=Hk (show Qdy (Qax cs j) 1 from Or.inr (Or.inl ⟨by rw[ac.out,if_neg a4,hp],rfl⟩))
     have am:PI= -1:=by rw[<-ad.out];exact QaM hp
     subst am
     clear hp ac ad
     obtain⟨Z,M,za,I,J,F,D⟩:=KS.out y (Below.refl _ _)
     have r5:=cell_regrown Z
     have r6:=cell_regrown M
     have ra:=cell_regrown za
     have ai:=cell_regrown I
     have ap:=cell_regrown J
     have ag:=cell_regrown F
     have ao:=cell_regrown D
     skip
     clear Z M za I J F D
     have T:=fun d os=>Calls.regrown_of ((aA.out (Sort.grow (redrawn y d) os) (below_regrown y d os)).mono fun e w' ⟨h1,h2⟩=>⟨h1,h2▸Below.refl _ _⟩)
     have K:=fun d os=>Calls.regrown_of (ax.out (Sort.grow (redrawn y d) os) (below_regrown y d os))
     refine wp_region_tail 27 (by kernel_rfl) (by kernel_rfl) rfl (Or.inl ⟨rfl,fun _=>rfl⟩) (fun _ _ _ h=>h) ?_
     simp only[List.drop_succ_cons,List.drop_zero,List.take_succ_cons,List.take_zero]
     repeat(any_goals(first|go_big_quiet_step (first|exact T _ _|exact K _ _)|quiet_step (first|exact T _ _|exact K _ _)))
     refine wpQuiet_nil ?_
     intro w8 ar
     obtain⟨⟨dq,E⟩,rfl⟩:=ar
     have af:=below_regrown y dq E
     clear r5 r6 ra ai ap ag ao T K
     generalize Sort.grow (redrawn y dq) E=W8 at*
     go_wp2_with (first|(go_at_call 20;refine(QaD false true false (1) rfl _ _ (by simp) (by simp) (by simp)).mono ?_;rintro e w6 ⟨rfl,z⟩;subst z)|(go_at_fn 20;refine(QaD false true false (1) rfl _ _ (by simp) (by simp) (by simp)).mono ?_;rintro e w6 ⟨rfl,z⟩;subst z))
     go_meet
     exact⟨1,rfl,U.out,Qad af _⟩
    |some i=>
     have aB:=Qaj hp
     have bA:(i:Int)<(n:Int):=by have:=HX.out.1;omega
     have bC:(0:Int)<=(i:Int):=by omega
     have bo:max (i:Int) 0=(i:Int):=by omega
     have a8:max 0 (i:Int)=(i:Int):=by omega
     obtain⟨kx,ae⟩:∃q,cs[i].2=q:=⟨_,rfl⟩
     obtain⟨kr,ah⟩:∃q,QaI cs j.right=q:=⟨_,rfl⟩
     have KT:=Hk (fun V (h:Below y.heap.size y V)=>(by have:=KS.out V h;obtain⟨z1,z2,z3,z4,Z,M,z7⟩:=this;exact Ai z1 (Ai z2 (Ai z3 (Ai z4 (Ai Z (Ai M (Ai z7 (((Qaa aQ.out h).cell (p:=⟨b,o+i*2+1,none⟩) aP).trans (by rw[(HX.out.2.1 i aB).2,ae])))))))):V.cell? ⟨w.heap.size,5,none⟩=some (Value.string j.op)/\V.cell? ⟨w.heap.size,6,none⟩=some (Value.string j.left.1)/\V.cell? ⟨A,0,none⟩=some (Value.slice (some ⟨b,o,none⟩) n c)/\V.cell? ⟨w.heap.size,10,none⟩=some (Value.string j.right.1)/\V.cell? ⟨w.heap.size,11,none⟩=some (Value.int .i64 j.right.2.1)/\V.cell? ⟨w.heap.size,12,none⟩=some (Value.int .i64 j.right.2.2.1)/\V.cell? ⟨w.heap.size,13,none⟩=some (Value.string j.right.2.2.2)/\V.cell? ⟨b,o+i*2+1,none⟩=some (Value.int .i64 kx)))
     have aG:=Hk (show(if QaI cs j.right=(cs[i]?.getD (⟨#[]⟩,0)).2 then(0:Int) else 13)=if kr=kx then 0 else 13 by rw[ah];simp only[List.getElem?_eq_getElem aB,Option.getD_some,ae])
     rw[ah] at ax
     have am:PI=(i:Int):=by rw[<-ad.out];exact Qaw hp
     subst am
     have HP:=Hk hp
     clear hp ah ae ad
     have U:=Hk (show Qdy (Qax cs j) (if(kr != kx)=true then 2 else-1) from by
      cases kn:(kr != kx)
      ·exact Or.inr (Or.inr (Or.inr ⟨by rw[ac.out,if_neg a4,HP.out];show(if QaI cs j.right=_ then(0:Int) else 13)=0;rw[aG.out,if_pos (by simpa using kn)],rfl⟩))
      ·exact Or.inr (Or.inr (Or.inl ⟨by rw[ac.out,if_neg a4,HP.out];show(if QaI cs j.right=_ then(0:Int) else 13)=13;rw[aG.out,if_neg (by simpa using kn)],rfl⟩)))
     clear aG ac HP
     obtain⟨KQ,bj⟩:∃q,(if(kr != kx)=true then(2:Int) else-1)=q:=⟨_,rfl⟩
     rw[bj] at U
     have bD:=Hk (show Qcm [false,false,(kr != kx)]=KQ by rw[<-bj];cases (kr != kx)<;>rfl)
     clear bj
     obtain⟨Z,M,za,I,J,F,D,zk⟩:=KT.out y (Below.refl _ _)
     have r5:=cell_regrown Z
     have r6:=cell_regrown M
     have ra:=cell_regrown za
     have ai:=cell_regrown I
     have ap:=cell_regrown J
     have ag:=cell_regrown F
     have ao:=cell_regrown D
     have rk:=cell_regrown zk
     clear Z M za I J F D zk
     have T:=fun d os=>Calls.regrown_of ((aA.out (Sort.grow (redrawn y d) os) (below_regrown y d os)).mono fun e w' ⟨h1,h2⟩=>⟨h1,h2▸Below.refl _ _⟩)
     have K:=fun d os=>Calls.regrown_of (ax.out (Sort.grow (redrawn y d) os) (below_regrown y d os))
     refine wp_region_tail 27 (by kernel_rfl) (by kernel_rfl) rfl (Or.inl ⟨rfl,fun _=>rfl⟩) (fun _ _ _ h=>h) ?_
     simp only[List.drop_succ_cons,List.drop_zero,List.take_succ_cons,List.take_zero]
     repeat(any_goals(first|go_big_quiet_step (first|exact T _ _|exact K _ _)|quiet_step (first|exact T _ _|exact K _ _)))
     refine wpQuiet_nil ?_
     intro w8 ar
     obtain⟨⟨dq,E⟩,rfl⟩:=ar
     have af:=below_regrown y dq E
     clear r5 r6 ra ai ap ag ao T K rk
     generalize Sort.grow (redrawn y dq) E=W8 at*
     go_wp2_with (first|(go_at_call 20;refine(QaD false false (kr != kx) (KQ) bD.out _ _ (by simp) (by simp) (by simp)).mono ?_;rintro e w6 ⟨rfl,z⟩;subst z)|(go_at_fn 20;refine(QaD false false (kr != kx) (KQ) bD.out _ _ (by simp) (by simp) (by simp)).mono ?_;rintro e w6 ⟨rfl,z⟩;subst z))
     go_meet
     exact⟨KQ,rfl,U.out,Qad af _⟩
 case rest=>
 obtain⟨kk,rfl,bO,aw⟩:=hcut
 obtain⟨aJ,bl⟩:∃q,q=wc:=⟨_,rfl⟩
 rw[<-bl] at aw⊢
 clear bl
 obtain⟨g0,g1,g2⟩:=bQ.out
 have cX:=aw.size
 have cR:=bz.out
 have g0:=cK aw (by omega) g0
 have g1:=cK aw (by omega) g1
 have g2:=cK aw (by omega) g2
 have a7:aJ.cell? ⟨A,0,none⟩=some (.slice (some ⟨b,o,none⟩) n c):=cK (Qaa bE.out aw) bM ct.out
 have bG:=Qaf cj.out aw
 have cf:=Hk (Qaa aQ.out aw)
 have aZ:w3.heap.size<aJ.heap.size:=by omega
 have ce:A<aJ.heap.size:=by have:=bE.out.size;omega
 have cg:=Hk bO
 have ci:=Hk bG
 have HG:=Hk (Ai g0 (Ai g1 (Ai g2 a7)))
 clear bG aw bO g0 g1 g2 a7
 obtain⟨i0,hi,cy,bY,b8⟩:=info_parts Tryz.infoCols
 go_wp2
 go_loopw [12] (fun l wr=>∃k:Nat,1<=k/\k<=2/\wr.ownsRow (w.heap.size+1) 33 1 l k (List.replicate k (.slice (some ⟨b,o,none⟩) n c))/\Below (w.heap.size+1) aJ wr/\Hid (wr.cell? ⟨w3.heap.size,0,none⟩=some (.int .i64 1)/\wr.cell? ⟨w3.heap.size,1,none⟩=some (.int .i64 7)/\wr.cell? ⟨w3.heap.size,2,none⟩=some (.int .i64 13)/\wr.cell? ⟨A,0,none⟩=some (.slice (some ⟨b,o,none⟩) n c))/\aJ.heap.size<=wr.heap.size/\(k=1->l=.slice (some ⟨wq.heap.size,0,none⟩) 1 1)) (fun l _=>2-QlE l)
 case atStart=>exact⟨1,Nat.le_refl _,by decide,ci.out,Below.refl _ _,HG,Nat.le_refl _,fun _=>rfl⟩
 case round=>
  obtain⟨k,cM,cK,a6,bP,bw,cB,hblk⟩:=hrel
  obtain⟨la,lc,rfl⟩:=Qae a6
  have HR:=Hk (Ai a6 (Ai bP hblk))
  clear a6 bP hblk
  by_cases hlt:k<2
  ·obtain rfl:k=1:=by omega
   have bF:=HR.out.2.2 rfl
   simp only[Value.slice.injEq,true_and] at bF
   obtain⟨rfl,rfl⟩:=bF
   obtain⟨g0,g1,g2,a7⟩:=bw.out
   have cQ:A<wr.heap.size:=by omega
   go_wp2_with (at_builtin;refine wpList_append_own _ rfl _ _ 31 rfl (w.heap.size+1) 33 i0 (.slice none 0 0) 1 24 Tryz.underlying31 hi cy bY b8 rfl (by decide) _ _ _ rfl (HR.out.1.alloc _) ⟨wr.heap.size,0,none⟩ 1 1 [.slice (some ⟨b,o,none⟩) n c] rfl rfl (QbG _ _ _ _ rfl) (QbZ _ _ _) ?c3 ?c4 ?c5 ?_)
   case c3=>unfold maxLen;omega
   try(case c4=>omega)
   case c5=>first|omega|(simp;omega)
   intro v' w9 aR aC _
   have ay:∀(B O:Nat) (v:Value),wr.cell? ⟨B,O,none⟩=some v->B<aJ.heap.size->B≠wq.heap.size->w9.cell? ⟨B,O,none⟩=some v:=fun B O v h1 h2 h3=>aC.cell (a:=⟨B,O,none⟩) ((World.cell?_alloc_past _ _ _ (by show B<wr.heap.size;omega)).trans h1) (by
    intro e
    simp only[Value.ownBlock,Option.some.injEq] at e
    exact h3 e)
   have aY:w3.heap.size≠wq.heap.size:=by have:=bz.out;omega
   have bV:A≠wq.heap.size:=by omega
   have ch:=Hk (Ai (ay _ _ _ g0 aZ aY) (Ai (ay _ _ _ g1 aZ aY) (Ai (ay _ _ _ g2 aZ aY) (ay _ _ _ a7 ce bV))))
   have be:Below (w.heap.size+1) aJ w9:=(HR.out.2.1.alloc (by omega) _).grown aC (by simp;omega) (fun q hq=>(HR.out.1.lt q hq).1)
   have cn:=aC.size
   simp at cn
   obtain⟨a',c',rfl⟩:=Qae aR
   have HF:=Hk (Ai aR be)
   clear aR aC be ay g0 g1 g2 a7
   go_wp2
   go_roundw
   case rel=>exact⟨2,by decide,by decide,HF.out.1,HF.out.2,ch,by omega,fun h=>absurd h (by decide)⟩
   case measure=>simp[QlE]
  ·obtain rfl:k=2:=by omega
   obtain⟨g0,g1,g2,a7⟩:=bw.out
   have cA:w3.heap.size<wr.heap.size:=by omega
   have aW:=Hk (cf.out.trans (HR.out.2.1.mono (by omega)))
   rcases cg.out with ⟨aq,rfl⟩|⟨aq,rfl⟩|⟨aq,rfl⟩|⟨aq,rfl⟩
   ·have U:=Hk aq
    clear aq HR a7
    go_wp2
    go_quiet (fail)
    go_wp2
    go_ret2
    exact⟨Or.inl ⟨by rw[U.out];decide,by rw[U.out];rfl⟩,below_drewN aW.out _⟩
   ·have U:=Hk aq
    clear aq HR a7
    go_wp2
    go_quiet (fail)
    go_wp2
    go_ret2
    exact⟨Or.inl ⟨by rw[U.out];decide,by rw[U.out];rfl⟩,below_drewN aW.out _⟩
   ·have U:=Hk aq
    clear aq HR a7
    go_wp2
    go_quiet (fail)
    go_wp2
    go_ret2
    exact⟨Or.inl ⟨by rw[U.out];decide,by rw[U.out];rfl⟩,below_drewN aW.out _⟩
   ·have U:=Hk aq
    have b7:=Hk HR.out.1
    clear aq HR a7 g0 g1 g2
    go_wp2
    go_ret2
    refine⟨Or.inr ⟨U.out,?_⟩,aW.out⟩
    obtain⟨gg,cc,he,cT,co,bp⟩:=QgN b7.out (by decide)
    simp only[Value.slice.injEq,true_and] at he
    obtain⟨rfl,rfl⟩:=he
    refine⟨gg,_,rfl,by omega,co,?_⟩
    intro i hi
    refine⟨.slice (some ⟨b,o,none⟩) n c,?_,?_⟩
    ·rw[Nat.zero_add]
     exact bp i (by simpa using hi)
    ·have:∀x∈([cs,cs]:List (List Cl)),x=cs:=by intro x hx;simp at hx;exact hx
     rw[this _ (List.getElem_mem hi)]
     exact cp.out _ aW.out
end Go.Proofs.YtofidnijfnhpaaaGreatDoor
