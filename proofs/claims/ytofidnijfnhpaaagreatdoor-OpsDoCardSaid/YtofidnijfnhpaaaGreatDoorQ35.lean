import Derived.Test.YtofidnijfnhpaaaGreatDoorQ01
import Derived.Test.YtofidnijfnhpaaaGreatDoorQ33
set_option linter.unusedSimpArgs false
set_option linter.unusedVariables false
set_option linter.unusedSectionVars false
set_option maxRecDepth 1000000
set_option maxHeartbeats 16000000
namespace Go.Proofs.YtofidnijfnhpaaaGreatDoor
open Go.RowKit
theorem QhA (hb ho bv b o n c oc:Nat) (oa:Option Addr) (cs:List Cl) (ss:List ByteArray) (j:Jb) (w:World) (bu:hb<w.heap.size) (h0:w.cell? ⟨hb,ho,none⟩=some (.slice (some ⟨b,o,none⟩) n c)) (bi:QaX w j.cols ss) (cy:ss.length<=100) (hn:cs.length=n) (cn:1<=n) (cz:n<=40) (cE:n<=c) (aI:b<w.heap.size) (hc:Qas w b o cs) (hsz:∀x∈cs,x.1.size<=maxLen) (aT:j.code=1) (hj:j.outs=.slice oa 1 oc) (hE:Env w) (cb:j.op.size<=1000000) (bQ:j.right.2.2.2.size<=maxLen):
 Calls Tryz.prog 9 #[.agg j.cells,.slice (some ⟨hb,ho,none⟩) 1 bv] w fun e w'=>QaO e w' w.heap.size (Qax cs j) [cs]/\Below w.heap.size w w':=by
 have cA:=mkF
 obtain⟨sv,ba⟩:∃q,j.cols=q:=⟨_,rfl⟩
 obtain⟨sa,sc,rfl,cq,co,aN⟩:=ba▸bi
 have bz:=fun V (h:Below w.heap.size w V)=>Qcl b o n c cs j.right V hn (by omega) (by have:=h.size;omega) (hc.below h aI) bQ
 have b5:=Hk bz
 have bP:=Hk (fun V (h:Below w.heap.size w V)=>Qfo j.op V (hE.below h) cb)
 have bR:=Hk (fun V (h:Below w.heap.size w V)=>Qdw b o n c cs j.left.1 V hn (by omega) (by have:=h.size;omega) (hc.below h aI))
 clear bz
 have HX:=Hk (Ai hn (Ai hc (Ai hsz (Ai h0 bi))))
 refine Qa6 hb ho 1 bv 1 ss.length sc oc n c oa sa (some ⟨b,o,none⟩) j w bu h0 (by rw[aT];rfl) (by decide) hj ba _ ?_
 iterate 226 intro _
 intro A N wc ar
 clear bi h0 hn hc hsz aN
 have HW:=Hk ar.bel
 have bU:=ar.big
 have aH:w.heap.size<wc.heap.size:=by omega
 have cF:hb<wc.heap.size:=by omega
 have a0:=ar.a0
 have m0:=ar.m0
 have bA:=ar.Al
 have cG:=ar.Nl
 have cv:=ar.A0
 have cC:=ar.N0
 have aG:=Hk (show∀k v,(#[.int .i64 j.at_,.int .i64 1,.slice oa 1 oc,j.ins,.slice sa ss.length sc,.string j.op,.string j.left.1,.int .i64 j.left.2.1,.int .i64 j.left.2.2.1,.string j.left.2.2.2,.string j.right.1,.int .i64 j.right.2.1,.int .i64 j.right.2.2.1,.string j.right.2.2.2,.int .i64 j.retry]:Array Value)[k]? =some v->wc.cell? ⟨w.heap.size,k,none⟩=some v from fun k v hk=>ar.job k v (by unfold Jb.cells;rw[hj,aT,ba];exact hk))
 have f0:=cK HW.out bu HX.out.2.2.2.1
 clear ar
 conv=>arg 2;whnf
 have j1:wc.cell? ⟨w.heap.size,1,none⟩=some (.int .i64 1):=aG.out 1 _ rfl
 have b9:=Hk (show∀V,Below w.heap.size w V->Qav V (.slice (some ⟨b,o,none⟩) n c) cs from fun V h=>⟨some ⟨b,o,none⟩,c,by rw[HX.out.1],by have:=HX.out.1;omega,HX.out.2.2.1,Or.inr ⟨b,o,rfl,by have:=h.size;omega,HX.out.2.1.below h aI⟩⟩)
 have q5:wc.cell? ⟨w.heap.size,5,none⟩=some (.string j.op):=aG.out 5 _ rfl
 have q6:wc.cell? ⟨w.heap.size,6,none⟩=some (.string j.left.1):=aG.out 6 _ rfl
 have bB:wc.cell? ⟨w.heap.size,10,none⟩=some (.string j.right.1):=aG.out 10 _ rfl
 have bn:wc.cell? ⟨w.heap.size,11,none⟩=some (.int .i64 j.right.2.1):=aG.out 11 _ rfl
 have bp:wc.cell? ⟨w.heap.size,12,none⟩=some (.int .i64 j.right.2.2.1):=aG.out 12 _ rfl
 have bw:wc.cell? ⟨w.heap.size,13,none⟩=some (.string j.right.2.2.2):=aG.out 13 _ rfl
 have cr:Qax cs j=Qax cs j:=rfl
 go_upto_region 16 with (go_at_call 19;refine(bR.out _ (Qad HW.out _)).mono ?_;rintro e w3 ⟨rfl,aU⟩)
 obtain⟨y,aw⟩:∃q,q=w3.alloc (.cells #[.int .i64 1,.int .i64 7,.int .i64 13] 40):=⟨_,rfl⟩
 rw[<-aw]
 have aN:=aU.size
 simp at aN
 have e0:y.cell? ⟨w3.heap.size,0,none⟩=some (.int .i64 1):=by rw[aw];simp
 have e1:y.cell? ⟨w3.heap.size,1,none⟩=some (.int .i64 7):=by rw[aw];simp
 have e2:y.cell? ⟨w3.heap.size,2,none⟩=some (.int .i64 13):=by rw[aw];simp
 have bx:y.heap.size=w3.heap.size+1:=by rw[aw];simp
 have aq:Below wc.heap.size wc y:=by rw[aw];exact Qad (Qaa (Qab _ _) aU) _
 have b4:=Hk (show y.ownsRow (w.heap.size+1) 33 1 (.slice (some ⟨wc.heap.size,0,none⟩) 1 1) 1 [.slice (some ⟨b,o,none⟩) n c] by rw[aw];exact(Qaf (QjJ wc _ _ _ _ rfl bU) aU).alloc _)
 clear aw aU
 have aJ:=Hk (Qaa HW.out aq)
 have bs:=Hk aq
 have bE:=Hk (Ai e0 (Ai e1 e2))
 have KS:=Hk (fun V (h:Below y.heap.size y V)=>(Ai ((Qaa aq h).cell (p:=⟨w.heap.size,5,none⟩) aH|>.trans q5) (Ai ((Qaa aq h).cell (p:=⟨w.heap.size,6,none⟩) aH|>.trans q6) (Ai ((Qaa aq h).cell (p:=⟨A,0,none⟩) bA|>.trans a0) (Ai ((Qaa aq h).cell (p:=⟨w.heap.size,10,none⟩) aH|>.trans bB) (Ai ((Qaa aq h).cell (p:=⟨w.heap.size,11,none⟩) aH|>.trans bn) (Ai ((Qaa aq h).cell (p:=⟨w.heap.size,12,none⟩) aH|>.trans bp) ((Qaa aq h).cell (p:=⟨w.heap.size,13,none⟩) aH|>.trans bw))))))))
 have ax:=Hk (fun V (h:Below y.heap.size y V)=>bP.out V (Qaa aJ.out h))
 have av:=Hk (fun V (h:Below y.heap.size y V)=>b5.out V (Qaa aJ.out h))
 have bN:=Hk (Ai bx aN)
 have cd:=Hk a0
 clear e0 e1 e2 aq q5 q6 bB bn bp bw a0 m0 f0 aN bx
 generalize wc=wq at*
 clear wc
 obtain⟨PI,a6⟩:∃q,Qaq cs j.left.1.data.toList=q:=⟨_,rfl⟩
 rw[a6]
 have ab:=Hk a6
 clear a6
 go_cut [15] (fun v wx=>∃kk:Int,v=.int .i64 kk/\Qdy (Qax cs j) kk/\Below y.heap.size y wx)
 case first=>
  have aa:=Hk (show Qax cs j=if inS Qa3 j.op.data.toList=false\/j.left.1.data.toList=[] then 1 else match Qak cs j.left.1.data.toList with |none=>7|some i=>if QaI cs j.right=(cs[i]?.getD (⟨#[]⟩,0)).2 then 0 else 13 by unfold Qax;rfl)
  cases o1:inS Qa3 j.op.data.toList
  ·rw[o1] at ax
   cases hp:Qak cs j.left.1.data.toList with
   |none=>
    have O:=Hk (show Qdy (Qax cs j) 0 from Or.inl ⟨by rw[aa.out,if_pos (Or.inl o1)],rfl⟩)
    have aj:PI= -1:=by rw[<-ab.out];exact QaM hp
    subst aj
    clear hp aa ab
    obtain⟨T,K,za,F,I,E,B⟩:=KS.out y (Below.refl _ _)
    have r5:=cell_regrown T
    have r6:=cell_regrown K
    have ra:=cell_regrown za
    have ag:=cell_regrown F
    have al:=cell_regrown I
    have ae:=cell_regrown E
    have ak:=cell_regrown B
    skip
    clear T K za F I E B
    have M:=fun d os=>Calls.regrown_of ((ax.out (Sort.grow (redrawn y d) os) (below_regrown y d os)).mono fun e w' ⟨h1,h2⟩=>⟨h1,h2▸Below.refl _ _⟩)
    have J:=fun d os=>Calls.regrown_of (av.out (Sort.grow (redrawn y d) os) (below_regrown y d os))
    refine wp_region_tail 27 (by kernel_rfl) (by kernel_rfl) rfl (Or.inl ⟨rfl,fun _=>rfl⟩) (fun _ _ _ h=>h) ?_
    simp only[List.drop_succ_cons,List.drop_zero,List.take_succ_cons,List.take_zero]
    repeat(any_goals(first|go_big_quiet_step (first|exact M _ _|exact J _ _)|quiet_step (first|exact M _ _|exact J _ _)))
    refine wpQuiet_nil ?_
    intro w8 ao
    obtain⟨⟨dq,D⟩,rfl⟩:=ao
    have ad:=below_regrown y dq D
    clear r5 r6 ra ag al ae ak M J
    generalize Sort.grow (redrawn y dq) D=W8 at*
    go_wp2_with (first|(go_at_call 20;refine(QaD true true false (0) rfl _ _ (by simp) (by simp) (by simp)).mono ?_;rintro e w6 ⟨rfl,z⟩;subst z)|(go_at_fn 20;refine(QaD true true false (0) rfl _ _ (by simp) (by simp) (by simp)).mono ?_;rintro e w6 ⟨rfl,z⟩;subst z))
    go_meet
    exact⟨0,rfl,O.out,Qad ad _⟩
   |some i=>
    have ay:=Qaj hp
    have bo:(i:Int)<(n:Int):=by have:=HX.out.1;omega
    have bq:(0:Int)<=(i:Int):=by omega
    have bg:max (i:Int) 0=(i:Int):=by omega
    have aS:max 0 (i:Int)=(i:Int):=by omega
    obtain⟨U,ac⟩:∃q,cs[i].2=q:=⟨_,rfl⟩
    obtain⟨Z,af⟩:∃q,QaI cs j.right=q:=⟨_,rfl⟩
    have KT:=Hk (fun V (h:Below y.heap.size y V)=>(by have:=KS.out V h;obtain⟨z1,z2,z3,z4,T,K,z7⟩:=this;exact Ai z1 (Ai z2 (Ai z3 (Ai z4 (Ai T (Ai K (Ai z7 (((Qaa aJ.out h).cell (p:=⟨b,o+i*2+1,none⟩) aI).trans (by rw[(HX.out.2.1 i ay).2,ac])))))))):V.cell? ⟨w.heap.size,5,none⟩=some (Value.string j.op)/\V.cell? ⟨w.heap.size,6,none⟩=some (Value.string j.left.1)/\V.cell? ⟨A,0,none⟩=some (Value.slice (some ⟨b,o,none⟩) n c)/\V.cell? ⟨w.heap.size,10,none⟩=some (Value.string j.right.1)/\V.cell? ⟨w.heap.size,11,none⟩=some (Value.int .i64 j.right.2.1)/\V.cell? ⟨w.heap.size,12,none⟩=some (Value.int .i64 j.right.2.2.1)/\V.cell? ⟨w.heap.size,13,none⟩=some (Value.string j.right.2.2.2)/\V.cell? ⟨b,o+i*2+1,none⟩=some (Value.int .i64 U)))
    have aB:=Hk (show(if QaI cs j.right=(cs[i]?.getD (⟨#[]⟩,0)).2 then(0:Int) else 13)=if Z=U then 0 else 13 by rw[af];simp only[List.getElem?_eq_getElem ay,Option.getD_some,ac])
    rw[af] at av
    have aj:PI=(i:Int):=by rw[<-ab.out];exact Qaw hp
    subst aj
    have HP:=Hk hp
    clear hp af ac ab
    have O:=Hk (show Qdy (Qax cs j) (0) from Or.inl ⟨by rw[aa.out,if_pos (Or.inl o1)],rfl⟩)
    clear aB aa HP
    obtain⟨T,K,za,F,I,E,B,zk⟩:=KT.out y (Below.refl _ _)
    have r5:=cell_regrown T
    have r6:=cell_regrown K
    have ra:=cell_regrown za
    have ag:=cell_regrown F
    have al:=cell_regrown I
    have ae:=cell_regrown E
    have ak:=cell_regrown B
    have rk:=cell_regrown zk
    clear T K za F I E B zk
    have M:=fun d os=>Calls.regrown_of ((ax.out (Sort.grow (redrawn y d) os) (below_regrown y d os)).mono fun e w' ⟨h1,h2⟩=>⟨h1,h2▸Below.refl _ _⟩)
    have J:=fun d os=>Calls.regrown_of (av.out (Sort.grow (redrawn y d) os) (below_regrown y d os))
    refine wp_region_tail 27 (by kernel_rfl) (by kernel_rfl) rfl (Or.inl ⟨rfl,fun _=>rfl⟩) (fun _ _ _ h=>h) ?_
    simp only[List.drop_succ_cons,List.drop_zero,List.take_succ_cons,List.take_zero]
    repeat(any_goals(first|go_big_quiet_step (first|exact M _ _|exact J _ _)|quiet_step (first|exact M _ _|exact J _ _)))
    refine wpQuiet_nil ?_
    intro w8 ao
    obtain⟨⟨dq,D⟩,rfl⟩:=ao
    have ad:=below_regrown y dq D
    clear r5 r6 ra ag al ae ak M J rk
    generalize Sort.grow (redrawn y dq) D=W8 at*
    go_wp2_with (first|(go_at_call 20;refine(QaD true false (Z != U) (0) (by cases (Z != U)<;>rfl) _ _ (by simp) (by simp) (by simp)).mono ?_;rintro e w6 ⟨rfl,z⟩;subst z)|(go_at_fn 20;refine(QaD true false (Z != U) (0) (by cases (Z != U)<;>rfl) _ _ (by simp) (by simp) (by simp)).mono ?_;rintro e w6 ⟨rfl,z⟩;subst z))
    go_meet
    exact⟨0,rfl,O.out,Qad ad _⟩
  ·rw[o1] at ax
   by_cases hle:j.left.1.data.toList=[]
   ·have ce:j.left.1.toList.isEmpty=true:=by rw[ByteArray.toList_eq,hle];rfl
    cases hp:Qak cs j.left.1.data.toList with
    |none=>
     have O:=Hk (show Qdy (Qax cs j) 0 from Or.inl ⟨by rw[aa.out,if_pos (Or.inr hle)],rfl⟩)
     have aj:PI= -1:=by rw[<-ab.out];exact QaM hp
     subst aj
     clear hp aa ab
     obtain⟨T,K,za,F,I,E,B⟩:=KS.out y (Below.refl _ _)
     have r5:=cell_regrown T
     have r6:=cell_regrown K
     have ra:=cell_regrown za
     have ag:=cell_regrown F
     have al:=cell_regrown I
     have ae:=cell_regrown E
     have ak:=cell_regrown B
     skip
     clear T K za F I E B
     have M:=fun d os=>Calls.regrown_of ((ax.out (Sort.grow (redrawn y d) os) (below_regrown y d os)).mono fun e w' ⟨h1,h2⟩=>⟨h1,h2▸Below.refl _ _⟩)
     have J:=fun d os=>Calls.regrown_of (av.out (Sort.grow (redrawn y d) os) (below_regrown y d os))
     refine wp_region_tail 27 (by kernel_rfl) (by kernel_rfl) rfl (Or.inl ⟨rfl,fun _=>rfl⟩) (fun _ _ _ h=>h) ?_
     simp only[List.drop_succ_cons,List.drop_zero,List.take_succ_cons,List.take_zero]
     repeat(any_goals(first|go_big_quiet_step (first|exact M _ _|exact J _ _)|quiet_step (first|exact M _ _|exact J _ _)))
     refine wpQuiet_nil ?_
     intro w8 ao
     obtain⟨⟨dq,D⟩,rfl⟩:=ao
     have ad:=below_regrown y dq D
     clear r5 r6 ra ag al ae ak M J
     generalize Sort.grow (redrawn y dq) D=W8 at*
     go_wp2_with (first|(go_at_call 20;refine(QaD true true false (0) rfl _ _ (by simp) (by simp) (by simp)).mono ?_;rintro e w6 ⟨rfl,z⟩;subst z)|(go_at_fn 20;refine(QaD true true false (0) rfl _ _ (by simp) (by simp) (by simp)).mono ?_;rintro e w6 ⟨rfl,z⟩;subst z))
     go_meet
     exact⟨0,rfl,O.out,Qad ad _⟩
    |some i=>
     have ay:=Qaj hp
     have bo:(i:Int)<(n:Int):=by have:=HX.out.1;omega
     have bq:(0:Int)<=(i:Int):=by omega
     have bg:max (i:Int) 0=(i:Int):=by omega
     have aS:max 0 (i:Int)=(i:Int):=by omega
     obtain⟨U,ac⟩:∃q,cs[i].2=q:=⟨_,rfl⟩
     obtain⟨Z,af⟩:∃q,QaI cs j.right=q:=⟨_,rfl⟩
     have KT:=Hk (fun V (h:Below y.heap.size y V)=>(by have:=KS.out V h;obtain⟨z1,z2,z3,z4,T,K,z7⟩:=this;exact Ai z1 (Ai z2 (Ai z3 (Ai z4 (Ai T (Ai K (Ai z7 (((Qaa aJ.out h).cell (p:=⟨b,o+i*2+1,none⟩) aI).trans (by rw[(HX.out.2.1 i ay).2,ac])))))))):V.cell? ⟨w.heap.size,5,none⟩=some (Value.string j.op)/\V.cell? ⟨w.heap.size,6,none⟩=some (Value.string j.left.1)/\V.cell? ⟨A,0,none⟩=some (Value.slice (some ⟨b,o,none⟩) n c)/\V.cell? ⟨w.heap.size,10,none⟩=some (Value.string j.right.1)/\V.cell? ⟨w.heap.size,11,none⟩=some (Value.int .i64 j.right.2.1)/\V.cell? ⟨w.heap.size,12,none⟩=some (Value.int .i64 j.right.2.2.1)/\V.cell? ⟨w.heap.size,13,none⟩=some (Value.string j.right.2.2.2)/\V.cell? ⟨b,o+i*2+1,none⟩=some (Value.int .i64 U)))
     have aB:=Hk (show(if QaI cs j.right=(cs[i]?.getD (⟨#[]⟩,0)).2 then(0:Int) else 13)=if Z=U then 0 else 13 by rw[af];simp only[List.getElem?_eq_getElem ay,Option.getD_some,ac])
     rw[af] at av
     have aj:PI=(i:Int):=by rw[<-ab.out];exact Qaw hp
     subst aj
     have HP:=Hk hp
     clear hp af ac ab
     have O:=Hk (show Qdy (Qax cs j) (0) from Or.inl ⟨by rw[aa.out,if_pos (Or.inr hle)],rfl⟩)
     clear aB aa HP
     obtain⟨T,K,za,F,I,E,B,zk⟩:=KT.out y (Below.refl _ _)
     have r5:=cell_regrown T
     have r6:=cell_regrown K
     have ra:=cell_regrown za
     have ag:=cell_regrown F
     have al:=cell_regrown I
     have ae:=cell_regrown E
     have ak:=cell_regrown B
     have rk:=cell_regrown zk
     clear T K za F I E B zk
     have M:=fun d os=>Calls.regrown_of ((ax.out (Sort.grow (redrawn y d) os) (below_regrown y d os)).mono fun e w' ⟨h1,h2⟩=>⟨h1,h2▸Below.refl _ _⟩)
     have J:=fun d os=>Calls.regrown_of (av.out (Sort.grow (redrawn y d) os) (below_regrown y d os))
     refine wp_region_tail 27 (by kernel_rfl) (by kernel_rfl) rfl (Or.inl ⟨rfl,fun _=>rfl⟩) (fun _ _ _ h=>h) ?_
     simp only[List.drop_succ_cons,List.drop_zero,List.take_succ_cons,List.take_zero]
     repeat(any_goals(first|go_big_quiet_step (first|exact M _ _|exact J _ _)|quiet_step (first|exact M _ _|exact J _ _)))
     refine wpQuiet_nil ?_
     intro w8 ao
     obtain⟨⟨dq,D⟩,rfl⟩:=ao
     have ad:=below_regrown y dq D
     clear r5 r6 ra ag al ae ak M J rk
     generalize Sort.grow (redrawn y dq) D=W8 at*
     go_wp2_with (first|(go_at_call 20;refine(QaD true false (Z != U) (0) (by cases (Z != U)<;>rfl) _ _ (by simp) (by simp) (by simp)).mono ?_;rintro e w6 ⟨rfl,z⟩;subst z)|(go_at_fn 20;refine(QaD true false (Z != U) (0) (by cases (Z != U)<;>rfl) _ _ (by simp) (by simp) (by simp)).mono ?_;rintro e w6 ⟨rfl,z⟩;subst z))
     go_meet
     exact⟨0,rfl,O.out,Qad ad _⟩
   ·have ce:j.left.1.toList.isEmpty=false:=by
     rw[ByteArray.toList_eq]
     cases h:j.left.1.data.toList with
     |nil=>exact absurd h hle
     |cons a q=>rfl
    have aP:¬(inS Qa3 j.op.data.toList=false\/j.left.1.data.toList=[]):=by
     rintro(h|h)
     ·rw[o1] at h;cases h
     ·exact hle h
    cases hp:Qak cs j.left.1.data.toList with
    |none=>
     have O:=Hk (show Qdy (Qax cs j) 1 from Or.inr (Or.inl ⟨by rw[aa.out,if_neg aP,hp],rfl⟩))
     have aj:PI= -1:=by rw[<-ab.out];exact QaM hp
     subst aj
     clear hp aa ab
     obtain⟨T,K,za,F,I,E,B⟩:=KS.out y (Below.refl _ _)
     have r5:=cell_regrown T
     have r6:=cell_regrown K
     have ra:=cell_regrown za
     have ag:=cell_regrown F
     have al:=cell_regrown I
     have ae:=cell_regrown E
     have ak:=cell_regrown B
     skip
     clear T K za F I E B
     have M:=fun d os=>Calls.regrown_of ((ax.out (Sort.grow (redrawn y d) os) (below_regrown y d os)).mono fun e w' ⟨h1,h2⟩=>⟨h1,h2▸Below.refl _ _⟩)
     have J:=fun d os=>Calls.regrown_of (av.out (Sort.grow (redrawn y d) os) (below_regrown y d os))
     refine wp_region_tail 27 (by kernel_rfl) (by kernel_rfl) rfl (Or.inl ⟨rfl,fun _=>rfl⟩) (fun _ _ _ h=>h) ?_
     simp only[List.drop_succ_cons,List.drop_zero,List.take_succ_cons,List.take_zero]
     repeat(any_goals(first|go_big_quiet_step (first|exact M _ _|exact J _ _)|quiet_step (first|exact M _ _|exact J _ _)))
     refine wpQuiet_nil ?_
     intro w8 ao
     obtain⟨⟨dq,D⟩,rfl⟩:=ao
     have ad:=below_regrown y dq D
     clear r5 r6 ra ag al ae ak M J
     generalize Sort.grow (redrawn y dq) D=W8 at*
     go_wp2_with (first|(go_at_call 20;refine(QaD false true false (1) rfl _ _ (by simp) (by simp) (by simp)).mono ?_;rintro e w6 ⟨rfl,z⟩;subst z)|(go_at_fn 20;refine(QaD false true false (1) rfl _ _ (by simp) (by simp) (by simp)).mono ?_;rintro e w6 ⟨rfl,z⟩;subst z))
     go_meet
     exact⟨1,rfl,O.out,Qad ad _⟩
    |some i=>
     have ay:=Qaj hp
     have bo:(i:Int)<(n:Int):=by have:=HX.out.1;omega
     have bq:(0:Int)<=(i:Int):=by omega
     have bg:max (i:Int) 0=(i:Int):=by omega
     have aS:max 0 (i:Int)=(i:Int):=by omega
     obtain⟨U,ac⟩:∃q,cs[i].2=q:=⟨_,rfl⟩
     obtain⟨Z,af⟩:∃q,QaI cs j.right=q:=⟨_,rfl⟩
     have KT:=Hk (fun V (h:Below y.heap.size y V)=>(by have:=KS.out V h;obtain⟨z1,z2,z3,z4,T,K,z7⟩:=this;exact Ai z1 (Ai z2 (Ai z3 (Ai z4 (Ai T (Ai K (Ai z7 (((Qaa aJ.out h).cell (p:=⟨b,o+i*2+1,none⟩) aI).trans (by rw[(HX.out.2.1 i ay).2,ac])))))))):V.cell? ⟨w.heap.size,5,none⟩=some (Value.string j.op)/\V.cell? ⟨w.heap.size,6,none⟩=some (Value.string j.left.1)/\V.cell? ⟨A,0,none⟩=some (Value.slice (some ⟨b,o,none⟩) n c)/\V.cell? ⟨w.heap.size,10,none⟩=some (Value.string j.right.1)/\V.cell? ⟨w.heap.size,11,none⟩=some (Value.int .i64 j.right.2.1)/\V.cell? ⟨w.heap.size,12,none⟩=some (Value.int .i64 j.right.2.2.1)/\V.cell? ⟨w.heap.size,13,none⟩=some (Value.string j.right.2.2.2)/\V.cell? ⟨b,o+i*2+1,none⟩=some (Value.int .i64 U)))
     have aB:=Hk (show(if QaI cs j.right=(cs[i]?.getD (⟨#[]⟩,0)).2 then(0:Int) else 13)=if Z=U then 0 else 13 by rw[af];simp only[List.getElem?_eq_getElem ay,Option.getD_some,ac])
     rw[af] at av
     have aj:PI=(i:Int):=by rw[<-ab.out];exact Qaw hp
     subst aj
     have HP:=Hk hp
     clear hp af ac ab
     have O:=Hk (show Qdy (Qax cs j) (if(Z != U)=true then 2 else-1) from by
      cases kn:(Z != U)
      ·exact Or.inr (Or.inr (Or.inr ⟨by rw[aa.out,if_neg aP,HP.out];show(if QaI cs j.right=_ then(0:Int) else 13)=0;rw[aB.out,if_pos (by simpa using kn)],rfl⟩))
      ·exact Or.inr (Or.inr (Or.inl ⟨by rw[aa.out,if_neg aP,HP.out];show(if QaI cs j.right=_ then(0:Int) else 13)=13;rw[aB.out,if_neg (by simpa using kn)],rfl⟩)))
     clear aB aa HP
     obtain⟨KQ,bb⟩:∃q,(if(Z != U)=true then(2:Int) else-1)=q:=⟨_,rfl⟩
     rw[bb] at O
     have br:=Hk (show Qcm [false,false,(Z != U)]=KQ by rw[<-bb];cases (Z != U)<;>rfl)
     clear bb
     obtain⟨T,K,za,F,I,E,B,zk⟩:=KT.out y (Below.refl _ _)
     have r5:=cell_regrown T
     have r6:=cell_regrown K
     have ra:=cell_regrown za
     have ag:=cell_regrown F
     have al:=cell_regrown I
     have ae:=cell_regrown E
     have ak:=cell_regrown B
     have rk:=cell_regrown zk
     clear T K za F I E B zk
     have M:=fun d os=>Calls.regrown_of ((ax.out (Sort.grow (redrawn y d) os) (below_regrown y d os)).mono fun e w' ⟨h1,h2⟩=>⟨h1,h2▸Below.refl _ _⟩)
     have J:=fun d os=>Calls.regrown_of (av.out (Sort.grow (redrawn y d) os) (below_regrown y d os))
     refine wp_region_tail 27 (by kernel_rfl) (by kernel_rfl) rfl (Or.inl ⟨rfl,fun _=>rfl⟩) (fun _ _ _ h=>h) ?_
     simp only[List.drop_succ_cons,List.drop_zero,List.take_succ_cons,List.take_zero]
     repeat(any_goals(first|go_big_quiet_step (first|exact M _ _|exact J _ _)|quiet_step (first|exact M _ _|exact J _ _)))
     refine wpQuiet_nil ?_
     intro w8 ao
     obtain⟨⟨dq,D⟩,rfl⟩:=ao
     have ad:=below_regrown y dq D
     clear r5 r6 ra ag al ae ak M J rk
     generalize Sort.grow (redrawn y dq) D=W8 at*
     go_wp2_with (first|(go_at_call 20;refine(QaD false false (Z != U) (KQ) br.out _ _ (by simp) (by simp) (by simp)).mono ?_;rintro e w6 ⟨rfl,z⟩;subst z)|(go_at_fn 20;refine(QaD false false (Z != U) (KQ) br.out _ _ (by simp) (by simp) (by simp)).mono ?_;rintro e w6 ⟨rfl,z⟩;subst z))
     go_meet
     exact⟨KQ,rfl,O.out,Qad ad _⟩
 case rest=>
 obtain⟨kk,rfl,bC,au⟩:=hcut
 obtain⟨aL,bd⟩:∃q,q=wc:=⟨_,rfl⟩
 rw[<-bd] at au⊢
 clear bd
 obtain⟨g0,g1,g2⟩:=bE.out
 have cH:=au.size
 have cB:=bN.out
 have g0:=cK au (by omega) g0
 have g1:=cK au (by omega) g1
 have g2:=cK au (by omega) g2
 have a7:aL.cell? ⟨A,0,none⟩=some (.slice (some ⟨b,o,none⟩) n c):=cK (Qaa bs.out au) bA cd.out
 have bt:=Qaf b4.out au
 have bX:=Hk (Qaa aJ.out au)
 have cg:w3.heap.size<aL.heap.size:=by omega
 have cx:A<aL.heap.size:=by have:=bs.out.size;omega
 have bY:=Hk bC
 have bZ:=Hk bt
 have HG:=Hk (Ai g0 (Ai g1 (Ai g2 a7)))
 clear bt au bC g0 g1 g2 a7
 obtain⟨i0,hi,cI,cp,cu⟩:=info_parts Tryz.infoCols
 go_wp2
 go_loopw [12] (fun l wr=>∃k:Nat,1<=k/\k<=1/\wr.ownsRow (w.heap.size+1) 33 1 l k (List.replicate k (.slice (some ⟨b,o,none⟩) n c))/\Below (w.heap.size+1) aL wr/\Hid (wr.cell? ⟨w3.heap.size,0,none⟩=some (.int .i64 1)/\wr.cell? ⟨w3.heap.size,1,none⟩=some (.int .i64 7)/\wr.cell? ⟨w3.heap.size,2,none⟩=some (.int .i64 13)/\wr.cell? ⟨A,0,none⟩=some (.slice (some ⟨b,o,none⟩) n c))/\aL.heap.size<=wr.heap.size/\(k=1->l=.slice (some ⟨wq.heap.size,0,none⟩) 1 1)) (fun l _=>1-QlE l)
 case atStart=>exact⟨1,Nat.le_refl _,by decide,bZ.out,Below.refl _ _,HG,Nat.le_refl _,fun _=>rfl⟩
 case round=>
  obtain⟨k,cw,ct,aR,bD,bM,cj,hblk⟩:=hrel
  obtain⟨la,lc,rfl⟩:=Qae aR
  have HR:=Hk (Ai aR (Ai bD hblk))
  clear aR bD hblk
  by_cases hlt:k<1
  ·exact absurd hlt (by omega)
  ·obtain rfl:k=1:=by omega
   obtain⟨g0,g1,g2,a7⟩:=bM.out
   have ci:w3.heap.size<wr.heap.size:=by omega
   have aM:=Hk (bX.out.trans (HR.out.2.1.mono (by omega)))
   rcases bY.out with ⟨am,rfl⟩|⟨am,rfl⟩|⟨am,rfl⟩|⟨am,rfl⟩
   ·have O:=Hk am
    clear am HR a7
    go_wp2
    go_quiet (fail)
    go_wp2
    go_ret2
    exact⟨Or.inl ⟨by rw[O.out];decide,by rw[O.out];rfl⟩,below_drewN aM.out _⟩
   ·have O:=Hk am
    clear am HR a7
    go_wp2
    go_quiet (fail)
    go_wp2
    go_ret2
    exact⟨Or.inl ⟨by rw[O.out];decide,by rw[O.out];rfl⟩,below_drewN aM.out _⟩
   ·have O:=Hk am
    clear am HR a7
    go_wp2
    go_quiet (fail)
    go_wp2
    go_ret2
    exact⟨Or.inl ⟨by rw[O.out];decide,by rw[O.out];rfl⟩,below_drewN aM.out _⟩
   ·have O:=Hk am
    have bS:=Hk HR.out.1
    clear am HR a7 g0 g1 g2
    go_wp2
    go_ret2
    refine⟨Or.inr ⟨O.out,?_⟩,aM.out⟩
    obtain⟨gg,cc,he,cD,b8,bh⟩:=QgN bS.out (by decide)
    simp only[Value.slice.injEq,true_and] at he
    obtain⟨rfl,rfl⟩:=he
    refine⟨gg,_,rfl,by omega,b8,?_⟩
    intro i hi
    refine⟨.slice (some ⟨b,o,none⟩) n c,?_,?_⟩
    ·rw[Nat.zero_add]
     exact bh i (by simpa using hi)
    ·have:∀x∈([cs]:List (List Cl)),x=cs:=by intro x hx;simp at hx;exact hx
     rw[this _ (List.getElem_mem hi)]
     exact b9.out _ aM.out
end Go.Proofs.YtofidnijfnhpaaaGreatDoor
