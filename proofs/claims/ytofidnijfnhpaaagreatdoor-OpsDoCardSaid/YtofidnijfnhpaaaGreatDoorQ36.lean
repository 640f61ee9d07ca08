import Derived.Test.YtofidnijfnhpaaaGreatDoorQ01
import Derived.Test.YtofidnijfnhpaaaGreatDoorQ33
import Derived.Test.YtofidnijfnhpaaaGreatDoorQ05
import Derived.Test.YtofidnijfnhpaaaGreatDoorQ16
set_option linter.unusedSimpArgs false
set_option linter.unusedVariables false
set_option linter.unusedSectionVars false
set_option maxRecDepth 1000000
set_option maxHeartbeats 16000000
namespace Go.Proofs.YtofidnijfnhpaaaGreatDoor
open Go.RowKit
theorem Qbo (cs:List Cl) (ss:List ByteArray) (i:Nat):QdH cs ss i= -1\/∃k:Nat,QdH cs ss i=(k:Int)/\k<cs.length:=by
 have j:∀o:Option ByteArray,(match o with |some s=>Qaq cs s.data.toList|none=>(-1:Int))= -1\/∃k:Nat,(match o with |some s=>Qaq cs s.data.toList|none=>(-1:Int))=(k:Int)/\k<cs.length:=by
  intro o
  cases o with
  |none=>exact Or.inl rfl
  |some s=>
   cases h:Qak cs s.data.toList with
   |none=>exact Or.inl (QaM h)
   |some k=>exact Or.inr ⟨k,Qaw h,Qaj h⟩
 exact j ss[i]?
theorem QcG {cs:List Cl} {j:List UInt8} (h:Qaq cs j= -1):Qak cs j=none:=by
 cases e:Qak cs j with
 |none=>rfl
 |some k=>rw[Qaw e] at h;omega
theorem QbU {cs:List Cl} {j:List UInt8} {i:Nat} (h:Qaq cs j=(i:Int)):Qak cs j=some i:=by
 cases e:Qak cs j with
 |none=>rw[QaM e] at h;omega
 |some k=>rw[Qaw e] at h;congr 1;omega
theorem unb {w:World} {b o:Nat} {v:Value} (h:w.cell? ⟨b,o,none⟩=some v):b<w.heap.size:=World.block_lt_of_cell? w _ h
theorem QjK (s:List UInt8):decide (s∈[[43],[45],[42]])=inS QaF s:=by
 rw[Bool.eq_iff_iff]
 simp only[decide_eq_true_eq,inS,QaF,List.any_cons,List.any_nil,Bool.or_false,Bool.or_eq_true,beq_iff_eq,List.mem_cons,List.not_mem_nil,or_false]
 constructor
 ·rintro(rfl|rfl|rfl)<;>simp
 ·rintro(h|h|h)<;>simp[<-h]
theorem QcZ (s:ByteArray) (w:World) (h:Env w) (j:s.size<=1000000):Calls Tryz.prog 21 #[.string s,.string ⟨#[43,32,45,32,42]⟩] w fun e w'=>e=.returned (.bool (inS QaF s.data.toList))/\w'=w:=by
 rw[<-QjK]
 exact Qcs _ _ (by decide) (by decide) (by decide) s w h j
theorem QfQ (a b:Bool):Qcm [true,a,b]=0:=by cases a<;>cases b<;>rfl
theorem QhB (hb ho a8 b o n c oc:Nat) (oa:Option Addr) (cs:List Cl) (ss:List ByteArray) (j:Jb) (w:World) (a7:hb<w.heap.size) (h0:w.cell? ⟨hb,ho,none⟩=some (.slice (some ⟨b,o,none⟩) n c)) (aI:QaX w j.cols ss) (bx:ss.length<=100) (hn:cs.length=n) (bU:1<=n) (b5:n<=40) (cd:n<=c) (aj:b<w.heap.size) (hc:Qas w b o cs) (hsz:∀x∈cs,x.1.size<=maxLen) (am:j.code=2) (hj:j.outs=.slice oa 1 oc) (hE:Env w) (bL:j.op.size<=1000000) (br:j.left.2.2.2.size<=maxLen) (bq:j.right.2.2.2.size<=maxLen) (b6:ss.length≠1):
 Calls Tryz.prog 9 #[.agg j.cells,.slice (some ⟨hb,ho,none⟩) 1 a8] w fun e w'=>QaO e w' w.heap.size 1 [cs]/\Below w.heap.size w w':=by
 have b7:=mkF
 obtain⟨sv,ap⟩:∃q,j.cols=q:=⟨_,rfl⟩
 obtain⟨sa,sc,rfl,bX,bV,ar⟩:=ap▸aI
 have bF:=Hk ap
 have az:=Hk (fun V (h:Below w.heap.size w V)=>Qcl b o n c cs j.left V hn (by omega) (by have:=h.size;omega) (hc.below h aj) br)
 have ax:=Hk (fun V (h:Below w.heap.size w V)=>Qcl b o n c cs j.right V hn (by omega) (by have:=h.size;omega) (hc.below h aj) bq)
 have aY:=Hk (fun V (h:Below w.heap.size w V)=>QcZ j.op V (hE.below h) bL)
 have cb:((ss.length:Int) != 1)=true:=by simp;omega
 have b9:=Hk (show QdH cs ss 0=match ss[0]? with |some s=>Qaq cs s.data.toList|none=>-1 from rfl)
 have HX:=Hk (Ai hn (Ai hc (Ai hsz (Ai h0 aI))))
 refine Qa6 hb ho 1 a8 1 ss.length sc oc n c oa sa (some ⟨b,o,none⟩) j w a7 h0 (by rw[am];rfl) (by decide) hj ap _ ?_
 iterate 226 intro _
 intro A N wc K
 clear aI h0 hn hc hsz ar
 have HW:=Hk K.bel
 have bZ:=K.big
 have I:w.heap.size<wc.heap.size:=by omega
 have ce:hb<wc.heap.size:=by omega
 have a0:=K.a0
 have m0:=K.m0
 have bM:=K.Al
 have bN:=K.Nl
 have b4:=K.A0
 have ca:=K.N0
 have F:=Hk (show∀k v,(#[.int .i64 j.at_,.int .i64 2,.slice oa 1 oc,j.ins,.slice sa ss.length sc,.string j.op,.string j.left.1,.int .i64 j.left.2.1,.int .i64 j.left.2.2.1,.string j.left.2.2.2,.string j.right.1,.int .i64 j.right.2.1,.int .i64 j.right.2.2.1,.string j.right.2.2.2,.int .i64 j.retry]:Array Value)[k]? =some v->wc.cell? ⟨w.heap.size,k,none⟩=some v from fun k v hk=>K.job k v (by unfold Jb.cells;rw[hj,am,ap];exact hk))
 have f0:=cK HW.out a7 HX.out.2.2.2.1
 clear K
 conv=>arg 2;whnf
 have j1:wc.cell? ⟨w.heap.size,1,none⟩=some (.int .i64 2):=F.out 1 _ rfl
 have cc:=Hk (show∀V,Below w.heap.size w V->Qav V (.slice (some ⟨b,o,none⟩) n c) cs from fun V h=>⟨some ⟨b,o,none⟩,c,by rw[HX.out.1],by have:=HX.out.1;omega,HX.out.2.2.1,Or.inr ⟨b,o,rfl,by have:=h.size;omega,HX.out.2.1.below h aj⟩⟩)
 have q4:wc.cell? ⟨w.heap.size,4,none⟩=some (.slice sa ss.length sc):=F.out 4 _ rfl
 have q5:wc.cell? ⟨w.heap.size,5,none⟩=some (.string j.op):=F.out 5 _ rfl
 have q6:wc.cell? ⟨w.heap.size,6,none⟩=some (.string j.left.1):=F.out 6 _ rfl
 have q7:wc.cell? ⟨w.heap.size,7,none⟩=some (.int .i64 j.left.2.1):=F.out 7 _ rfl
 have q8:wc.cell? ⟨w.heap.size,8,none⟩=some (.int .i64 j.left.2.2.1):=F.out 8 _ rfl
 have q9:wc.cell? ⟨w.heap.size,9,none⟩=some (.string j.left.2.2.2):=F.out 9 _ rfl
 have bd:wc.cell? ⟨w.heap.size,10,none⟩=some (.string j.right.1):=F.out 10 _ rfl
 have aW:wc.cell? ⟨w.heap.size,11,none⟩=some (.int .i64 j.right.2.1):=F.out 11 _ rfl
 have a4:wc.cell? ⟨w.heap.size,12,none⟩=some (.int .i64 j.right.2.2.1):=F.out 12 _ rfl
 have a9:wc.cell? ⟨w.heap.size,13,none⟩=some (.string j.right.2.2.2):=F.out 13 _ rfl
 have ar:QaX w (.slice sa ss.length sc) ss:=bF.out▸HX.out.2.2.2.2
 go_upto_region 21 with fail
 obtain⟨B,aa⟩:∃q,q=(wc.alloc (.cells #[.slice (some ⟨b,o,none⟩) n c] 33)).alloc (.cells #[.int .i64 1,.int .i64 7,.int .i64 13] 40):=⟨_,rfl⟩
 rw[<-aa]
 have T:B.cell? ⟨wc.heap.size+1,0,none⟩=some (.int .i64 1):=by rw[aa,show wc.heap.size+1=(wc.alloc (.cells #[.slice (some ⟨b,o,none⟩) n c] 33)).heap.size by simp];simp
 have M:B.cell? ⟨wc.heap.size+1,1,none⟩=some (.int .i64 7):=by rw[aa,show wc.heap.size+1=(wc.alloc (.cells #[.slice (some ⟨b,o,none⟩) n c] 33)).heap.size by simp];simp
 have U:B.cell? ⟨wc.heap.size+1,2,none⟩=some (.int .i64 13):=by rw[aa,show wc.heap.size+1=(wc.alloc (.cells #[.slice (some ⟨b,o,none⟩) n c] 33)).heap.size by simp];simp
 have O:B.cell? ⟨wc.heap.size,0,none⟩=some (.slice (some ⟨b,o,none⟩) n c):=by rw[aa,World.cell?_alloc_past _ _ _ (by simp)];simp
 have bc:B.heap.size=wc.heap.size+2:=by rw[aa];simp
 have D:Below wc.heap.size wc B:=by rw[aa];exact Qad (Qab _ _) _
 clear aa
 have J:=Hk (Qaa HW.out D)
 have ai:=Hk (Ai T (Ai M (Ai U O)))
 have z4:=cK D I q4
 have z5:=cK D I q5
 have z6:=cK D I q6
 have z7:=cK D I q7
 have z8:=cK D I q8
 have z9:=cK D I q9
 have a6:=cK D I bd
 have ba:=cK D I aW
 have a5:=cK D I a4
 have aX:=cK D I a9
 have za:=cK D bM a0
 have zN:=cK D bN m0
 have aZ:=Hk (show∀V,Below B.heap.size B V->Calls Tryz.prog 18 #[.int .i64 0,.pointer (some ⟨N,0,none⟩),.pointer (some ⟨A,0,none⟩),.pointer (some ⟨w.heap.size,0,none⟩)] V fun e w'=>e=.returned (.int .i64 (QdH cs ss 0))/\Below V.heap.size V w' from fun V h=>QdR N A w.heap.size b o n c ss.length (.slice sa ss.length sc) cs ss 0 V (cK h (unb zN) zN) (cK h (unb za) za) (cK h (unb z4) z4) (ar.below (Qaa J.out h)) rfl bx (by decide) HX.out.1 (by omega) (by have:=(Qaa J.out h).size;omega) (HX.out.2.1.below (Qaa J.out h) aj))
 have r5:=cell_regrown z5
 have ra:=cell_regrown za
 have rN:=cell_regrown zN
 have r6:=cell_regrown z6
 have r7:=cell_regrown z7
 have r8:=cell_regrown z8
 have r9:=cell_regrown z9
 have aq:=cell_regrown a6
 have av:=cell_regrown ba
 have ao:=cell_regrown a5
 have au:=cell_regrown aX
 have CO:=fun d os=>Calls.regrown_of ((aY.out (Sort.grow (redrawn B d) os) (Qaa J.out (below_regrown B d os))).mono fun e w' ⟨h1,h2⟩=>⟨h1,h2▸Below.refl _ _⟩)
 have Z:=fun d os=>Calls.regrown_of (aZ.out (Sort.grow (redrawn B d) os) (below_regrown B d os))
 have bA:=Hk (fun i (hi:i<cs.length)=>cell_regrown ((J.out.cell (p:=⟨b,o+i*2+1,none⟩) aj).trans (HX.out.2.1 i hi).2))
 clear T M U O D q4 q5 q6 q7 q8 q9 bd aW a4 a9 a0 m0 f0 z4 z5 z6 z7 z8 z9 a6 ba a5 aX za zN ar aY
 have al:=Hk bc
 clear bc
 obtain⟨PI,aA⟩:∃q,QdH cs ss 0=q:=⟨_,rfl⟩
 rw[aA] at Z
 have bG:=Hk aA
 clear aA aZ
 obtain⟨kl,aD⟩:∃q,QaI cs j.left=q:=⟨_,rfl⟩
 obtain⟨kr,aG⟩:∃q,QaI cs j.right=q:=⟨_,rfl⟩
 rw[aD] at az
 rw[aG] at ax
 have bb:∀(X:Value) (k:Int) (V:World),Below w.heap.size w V->(X=aggA j.left/\k=kl\/X=aggA j.right/\k=kr)->Calls Tryz.prog 22 #[X,.slice (some ⟨b,o,none⟩) n c] V fun e w'=>e=.returned (.int .i64 k)/\Below V.heap.size V w':=by
  rintro X k V hV (⟨rfl,rfl⟩|⟨rfl,rfl⟩)
  ·exact az.out V hV
  ·exact ax.out V hV
 have CL:=fun X k d os h=>Calls.regrown_of (bb X k (Sort.grow (redrawn B d) os) (Qaa J.out (below_regrown B d os)) h)
 have b8:=Hk (Ai aD aG)
 clear aD aG az ax bb
 have bE:PI= -1\/∃i:Nat,PI=(i:Int)/\i<cs.length:=bG.out▸Qbo cs ss 0
 rcases bE with rfl|⟨i,rfl,bH⟩
 ·
  refine wp_region_tail 38 (by kernel_rfl) (by kernel_rfl) rfl (Or.inl ⟨rfl,fun _=>rfl⟩) (fun _ _ _ h=>h) ?_
  simp only[List.drop_succ_cons,List.drop_zero,List.take_succ_cons,List.take_zero]
  repeat(any_goals(first|go_big_quiet_step (first|exact CO _ _|exact Z _ _|exact CL _ _ _ _ (by first|exact Or.inl ⟨rfl,rfl⟩|exact Or.inr ⟨rfl,rfl⟩))|quiet_step (first|exact CO _ _|exact Z _ _|exact CL _ _ _ _ (by first|exact Or.inl ⟨rfl,rfl⟩|exact Or.inr ⟨rfl,rfl⟩))))
  refine wpQuiet_nil ?_
  intro w8 ag
  obtain⟨⟨dq,E⟩,rfl⟩:=ag
  have y:=below_regrown B dq E
  clear r5 ra rN r6 r7 r8 r9 aq av ao au CO Z CL
  generalize Sort.grow (redrawn B dq) E=W8 at*
  have aJ:=y.size
  have ad:=al.out
  obtain⟨T,M,U,O⟩:=ai.out
  have g0:=cK y (by omega) T
  have g1:=cK y (by omega) M
  have g2:=cK y (by omega) U
  have aE:=Hk (cK y (by omega) O)
  have aC:wc.heap.size+1<W8.heap.size:=by omega
  have af:=Hk (Qaa J.out y)
  clear T M U O y ad
  go_wp2_with (first|(go_at_call 20;refine(QaD true true false (0) rfl _ _ (by simp) (by simp) (by simp)).mono ?_;rintro e w6 ⟨rfl,z⟩;subst z)|(go_at_fn 20;refine(QaD true true false (0) rfl _ _ (by simp) (by simp) (by simp)).mono ?_;rintro e w6 ⟨rfl,z⟩;subst z))
  go_quiet (fail)
  go_wp2
  go_ret2
  exact⟨Or.inl ⟨by decide,rfl⟩,below_drewN (Qad af.out _) _⟩
 ·have aH:=bA.out i bH
  have bW:(i:Int)<(n:Int):=by have:=HX.out.1;omega
  have bY:(0:Int)<=(i:Int):=by omega
  have bT:max (i:Int) 0=(i:Int):=by omega
  have bP:max 0 (i:Int)=(i:Int):=by omega
  generalize cs[i].2=kx at*
  cases k1:(kx != 1)
  ·cases k2:(kl != 1)
   ·
    refine wp_region_tail 38 (by kernel_rfl) (by kernel_rfl) rfl (Or.inl ⟨rfl,fun _=>rfl⟩) (fun _ _ _ h=>h) ?_
    simp only[List.drop_succ_cons,List.drop_zero,List.take_succ_cons,List.take_zero]
    repeat(any_goals(first|go_big_quiet_step (first|exact CO _ _|exact Z _ _|exact CL _ _ _ _ (by first|exact Or.inl ⟨rfl,rfl⟩|exact Or.inr ⟨rfl,rfl⟩))|quiet_step (first|exact CO _ _|exact Z _ _|exact CL _ _ _ _ (by first|exact Or.inl ⟨rfl,rfl⟩|exact Or.inr ⟨rfl,rfl⟩))))
    refine wpQuiet_nil ?_
    intro w8 ag
    obtain⟨⟨dq,E⟩,rfl⟩:=ag
    have y:=below_regrown B dq E
    clear r5 ra rN r6 r7 r8 r9 aq av ao au CO Z CL aH
    generalize Sort.grow (redrawn B dq) E=W8 at*
    have aJ:=y.size
    have ad:=al.out
    obtain⟨T,M,U,O⟩:=ai.out
    have g0:=cK y (by omega) T
    have g1:=cK y (by omega) M
    have g2:=cK y (by omega) U
    have aE:=Hk (cK y (by omega) O)
    have aC:wc.heap.size+1<W8.heap.size:=by omega
    have af:=Hk (Qaa J.out y)
    clear T M U O y ad
    go_wp2_with (first|(go_at_call 20;refine(QaD true false (kr != 1) (0) (QfQ _ _) _ _ (by simp) (by simp) (by simp)).mono ?_;rintro e w6 ⟨rfl,z⟩;subst z)|(go_at_fn 20;refine(QaD true false (kr != 1) (0) (QfQ _ _) _ _ (by simp) (by simp) (by simp)).mono ?_;rintro e w6 ⟨rfl,z⟩;subst z))
    go_quiet (fail)
    go_wp2
    go_ret2
    exact⟨Or.inl ⟨by decide,rfl⟩,below_drewN (Qad af.out _) _⟩
   ·
    refine wp_region_tail 38 (by kernel_rfl) (by kernel_rfl) rfl (Or.inl ⟨rfl,fun _=>rfl⟩) (fun _ _ _ h=>h) ?_
    simp only[List.drop_succ_cons,List.drop_zero,List.take_succ_cons,List.take_zero]
    repeat(any_goals(first|go_big_quiet_step (first|exact CO _ _|exact Z _ _|exact CL _ _ _ _ (by first|exact Or.inl ⟨rfl,rfl⟩|exact Or.inr ⟨rfl,rfl⟩))|quiet_step (first|exact CO _ _|exact Z _ _|exact CL _ _ _ _ (by first|exact Or.inl ⟨rfl,rfl⟩|exact Or.inr ⟨rfl,rfl⟩))))
    refine wpQuiet_nil ?_
    intro w8 ag
    obtain⟨⟨dq,E⟩,rfl⟩:=ag
    have y:=below_regrown B dq E
    clear r5 ra rN r6 r7 r8 r9 aq av ao au CO Z CL aH
    generalize Sort.grow (redrawn B dq) E=W8 at*
    have aJ:=y.size
    have ad:=al.out
    obtain⟨T,M,U,O⟩:=ai.out
    have g0:=cK y (by omega) T
    have g1:=cK y (by omega) M
    have g2:=cK y (by omega) U
    have aE:=Hk (cK y (by omega) O)
    have aC:wc.heap.size+1<W8.heap.size:=by omega
    have af:=Hk (Qaa J.out y)
    clear T M U O y ad
    go_wp2_with (first|(go_at_call 20;refine(QaD true false true (0) rfl _ _ (by simp) (by simp) (by simp)).mono ?_;rintro e w6 ⟨rfl,z⟩;subst z)|(go_at_fn 20;refine(QaD true false true (0) rfl _ _ (by simp) (by simp) (by simp)).mono ?_;rintro e w6 ⟨rfl,z⟩;subst z))
    go_quiet (fail)
    go_wp2
    go_ret2
    exact⟨Or.inl ⟨by decide,rfl⟩,below_drewN (Qad af.out _) _⟩
  ·
   refine wp_region_tail 38 (by kernel_rfl) (by kernel_rfl) rfl (Or.inl ⟨rfl,fun _=>rfl⟩) (fun _ _ _ h=>h) ?_
   simp only[List.drop_succ_cons,List.drop_zero,List.take_succ_cons,List.take_zero]
   repeat(any_goals(first|go_big_quiet_step (first|exact CO _ _|exact Z _ _|exact CL _ _ _ _ (by first|exact Or.inl ⟨rfl,rfl⟩|exact Or.inr ⟨rfl,rfl⟩))|quiet_step (first|exact CO _ _|exact Z _ _|exact CL _ _ _ _ (by first|exact Or.inl ⟨rfl,rfl⟩|exact Or.inr ⟨rfl,rfl⟩))))
   refine wpQuiet_nil ?_
   intro w8 ag
   obtain⟨⟨dq,E⟩,rfl⟩:=ag
   have y:=below_regrown B dq E
   clear r5 ra rN r6 r7 r8 r9 aq av ao au CO Z CL aH
   generalize Sort.grow (redrawn B dq) E=W8 at*
   have aJ:=y.size
   have ad:=al.out
   obtain⟨T,M,U,O⟩:=ai.out
   have g0:=cK y (by omega) T
   have g1:=cK y (by omega) M
   have g2:=cK y (by omega) U
   have aE:=Hk (cK y (by omega) O)
   have aC:wc.heap.size+1<W8.heap.size:=by omega
   have af:=Hk (Qaa J.out y)
   clear T M U O y ad
   go_wp2_with (first|(go_at_call 20;refine(QaD true false true (0) rfl _ _ (by simp) (by simp) (by simp)).mono ?_;rintro e w6 ⟨rfl,z⟩;subst z)|(go_at_fn 20;refine(QaD true false true (0) rfl _ _ (by simp) (by simp) (by simp)).mono ?_;rintro e w6 ⟨rfl,z⟩;subst z))
   go_quiet (fail)
   go_wp2
   go_ret2
   exact⟨Or.inl ⟨by decide,rfl⟩,below_drewN (Qad af.out _) _⟩
theorem QlG (s:List UInt8):decide (s∈[[115,117,109],[109,97,120]])=(decide (s=[115,117,109])||decide (s=[109,97,120])):=by
 rw[Bool.eq_iff_iff]
 simp
theorem QdS (s:ByteArray) (w:World) (h:Env w) (j:s.size<=1000000):Calls Tryz.prog 21 #[.string s,.string ⟨#[115,117,109,32,109,97,120]⟩] w fun e w'=>e=.returned (.bool (decide (s.data.toList=[115,117,109])||decide (s.data.toList=[109,97,120])))/\w'=w:=by
 rw[<-QlG]
 exact Qcs _ _ (by decide) (by decide) (by decide) s w h j
theorem Qbv (a b c:Bool):Qcm [true,a,b,c]=0:=by cases a<;>cases b<;>cases c<;>rfl
theorem Qdz (a b:Bool):Qcm [false,true,a,b]=1:=by cases a<;>cases b<;>rfl
theorem QgO (a:Bool):Qcm [false,false,true,a]=2:=by cases a<;>rfl
theorem QlH (w:World) (o h:Cl) (A:o.1.size<=maxLen) (B:h.1.size<=maxLen) (t z:TypeId) (v:Value):Qav ((w.alloc (.cells #[.string o.1,.int .i64 o.2,.string h.1,.int .i64 h.2] t)).alloc (.cells #[v] z)) (.slice (some ⟨w.heap.size,0,none⟩) 2 2) [o,h]:=by
 refine⟨some ⟨w.heap.size,0,none⟩,2,rfl,by simp,?_,Or.inr ⟨w.heap.size,0,rfl,by simp;omega,?_⟩⟩
 ·intro x y
  simp at y
  rcases y with rfl|rfl
  ·exact A
  ·exact B
 ·intro j q
  match j,q with
  |0,_=>exact⟨by simp,by simp⟩
  |1,_=>exact⟨by simp,by simp⟩
  |j+2,q=>exact absurd q (by simp)
theorem QjL (hb ho bd b o n c oc:Nat) (oa:Option Addr) (cs:List Cl) (ss:List ByteArray) (j:Jb) (w:World) (bb:hb<w.heap.size) (h0:w.cell? ⟨hb,ho,none⟩=some (.slice (some ⟨b,o,none⟩) n c)) (a4:QaX w j.cols ss) (bz:ss.length<=100) (hn:cs.length=n) (bS:1<=n) (bY:n<=40) (b7:n<=c) (am:b<w.heap.size) (hc:Qas w b o cs) (hsz:∀x∈cs,x.1.size<=maxLen) (az:j.code=8) (hj:j.outs=.slice oa 1 oc) (hE:Env w) (bL:j.op.size<=1000000) (x y:ByteArray) (Z:ss=[x,y]) (bG:(decide (j.op.data.toList=[115,117,109])||decide (j.op.data.toList=[109,97,120]))=true):
 Calls Tryz.prog 9 #[.agg j.cells,.slice (some ⟨hb,ho,none⟩) 1 bd] w fun e w'=>QaO e w' w.heap.size (QaG cs x y) [QaT (Qag cs [x,y]) cs]/\Below w.heap.size w w':=by
 have bZ:=mkF
 obtain⟨sv,aC⟩:∃q,j.cols=q:=⟨_,rfl⟩
 obtain⟨sa,sc,rfl,bV,bT,aG⟩:=aC▸a4
 have bF:=Hk aC
 have aQ:=Hk (fun V (h:Below w.heap.size w V)=>QdS j.op V (hE.below h) bL)
 have b5:((ss.length:Int) != 2)=false:=by simp;rw[Z];rfl
 rw[bG] at aQ
 have bK:=Hk (show QdH cs ss 0=Qaq cs x.data.toList by rw[Z];rfl)
 have bE:=Hk (show QdH cs ss 1=Qaq cs y.data.toList by rw[Z];rfl)
 clear Z
 have HX:=Hk (Ai hn (Ai hc (Ai hsz (Ai h0 a4))))
 refine Qa6 hb ho 1 bd 1 ss.length sc oc n c oa sa (some ⟨b,o,none⟩) j w bb h0 (by rw[az];rfl) (by decide) hj aC _ ?_
 iterate 226 intro _
 intro A N wc ag
 clear a4 h0 hn hc hsz aG
 have HW:=Hk ag.bel
 have bW:=ag.big
 have bg:w.heap.size<wc.heap.size:=by omega
 have cc:hb<wc.heap.size:=by omega
 have a0:=ag.a0
 have m0:=ag.m0
 have bM:=ag.Al
 have bO:=ag.Nl
 have bX:=ag.A0
 have b4:=ag.N0
 have aZ:=Hk (show∀k v,(#[.int .i64 j.at_,.int .i64 8,.slice oa 1 oc,j.ins,.slice sa ss.length sc,.string j.op,.string j.left.1,.int .i64 j.left.2.1,.int .i64 j.left.2.2.1,.string j.left.2.2.2,.string j.right.1,.int .i64 j.right.2.1,.int .i64 j.right.2.2.1,.string j.right.2.2.2,.int .i64 j.retry]:Array Value)[k]? =some v->wc.cell? ⟨w.heap.size,k,none⟩=some v from fun k v hk=>ag.job k v (by unfold Jb.cells;rw[hj,az,aC];exact hk))
 have f0:=cK HW.out bb HX.out.2.2.2.1
 clear ag
 conv=>arg 2;whnf
 have j1:wc.cell? ⟨w.heap.size,1,none⟩=some (.int .i64 8):=aZ.out 1 _ rfl
 have b6:=Hk (show∀V,Below w.heap.size w V->Qav V (.slice (some ⟨b,o,none⟩) n c) cs from fun V h=>⟨some ⟨b,o,none⟩,c,by rw[HX.out.1],by have:=HX.out.1;omega,HX.out.2.2.1,Or.inr ⟨b,o,rfl,by have:=h.size;omega,HX.out.2.1.below h am⟩⟩)
 have q4:wc.cell? ⟨w.heap.size,4,none⟩=some (.slice sa ss.length sc):=aZ.out 4 _ rfl
 have q5:wc.cell? ⟨w.heap.size,5,none⟩=some (.string j.op):=aZ.out 5 _ rfl
 have aG:QaX w (.slice sa ss.length sc) ss:=bF.out▸HX.out.2.2.2.2
 go_upto_region 32 with fail
 obtain⟨D,ai⟩:∃q,q=(wc.alloc (.cells #[.slice (some ⟨b,o,none⟩) n c] 33)).alloc (.cells #[.int .i64 1,.int .i64 7,.int .i64 13,.int .i64 9] 40):=⟨_,rfl⟩
 rw[<-ai]
 have J:D.cell? ⟨wc.heap.size+1,0,none⟩=some (.int .i64 1):=by rw[ai,show wc.heap.size+1=(wc.alloc (.cells #[.slice (some ⟨b,o,none⟩) n c] 33)).heap.size by simp];simp
 have F:D.cell? ⟨wc.heap.size+1,1,none⟩=some (.int .i64 7):=by rw[ai,show wc.heap.size+1=(wc.alloc (.cells #[.slice (some ⟨b,o,none⟩) n c] 33)).heap.size by simp];simp
 have K:D.cell? ⟨wc.heap.size+1,2,none⟩=some (.int .i64 13):=by rw[ai,show wc.heap.size+1=(wc.alloc (.cells #[.slice (some ⟨b,o,none⟩) n c] 33)).heap.size by simp];simp
 have I:D.cell? ⟨wc.heap.size+1,3,none⟩=some (.int .i64 9):=by rw[ai,show wc.heap.size+1=(wc.alloc (.cells #[.slice (some ⟨b,o,none⟩) n c] 33)).heap.size by simp];simp
 have be:D.heap.size=wc.heap.size+2:=by rw[ai];simp
 have aq:Below wc.heap.size wc D:=by rw[ai];exact Qad (Qab _ _) _
 clear ai
 have O:=Hk (Qaa HW.out aq)
 have ah:=Hk (Ai J (Ai F (Ai K I)))
 have z4:=cK aq bg q4
 have z5:=cK aq bg q5
 have za:=cK aq bM a0
 have zN:=cK aq bO m0
 have aX:=Hk (show∀(i:Nat) V,i<=100->Below D.heap.size D V->Calls Tryz.prog 18 #[.int .i64 i,.pointer (some ⟨N,0,none⟩),.pointer (some ⟨A,0,none⟩),.pointer (some ⟨w.heap.size,0,none⟩)] V fun e w'=>e=.returned (.int .i64 (QdH cs ss i))/\Below V.heap.size V w' from fun i V hi100 h=>QdR N A w.heap.size b o n c ss.length (.slice sa ss.length sc) cs ss i V (cK h (unb zN) zN) (cK h (unb za) za) (cK h (unb z4) z4) (aG.below (Qaa O.out h)) rfl bz hi100 HX.out.1 (by omega) (by have:=(Qaa O.out h).size;omega) (HX.out.2.1.below (Qaa O.out h) am))
 obtain⟨P0,aB⟩:∃q,QdH cs ss 0=q:=⟨_,rfl⟩
 obtain⟨P1,aA⟩:∃q,QdH cs ss 1=q:=⟨_,rfl⟩
 have aV:∀(X:Int) (k:Int) (V:World),Below D.heap.size D V->(X=0/\k=P0\/X=1/\k=P1)->Calls Tryz.prog 18 #[.int .i64 X,.pointer (some ⟨N,0,none⟩),.pointer (some ⟨A,0,none⟩),.pointer (some ⟨w.heap.size,0,none⟩)] V fun e w'=>e=.returned (.int .i64 k)/\Below V.heap.size V w':=by
  rintro X k V hV (⟨rfl,rfl⟩|⟨rfl,rfl⟩)
  ·rw[<-aB];exact aX.out 0 V (by decide) hV
  ·rw[<-aA];exact aX.out 1 V (by decide) hV
 have bB:=Hk aV
 have r5:=cell_regrown z5
 have ra:=cell_regrown za
 have rN:=cell_regrown zN
 have a9:=Hk za
 have U:=fun d os=>Calls.regrown_of ((aQ.out (Sort.grow (redrawn D d) os) (Qaa O.out (below_regrown D d os))).mono fun e w' ⟨h1,h2⟩=>⟨h1,h2▸Below.refl _ _⟩)
 have T:=fun X k d os h=>Calls.regrown_of (aV X k (Sort.grow (redrawn D d) os) (below_regrown D d os) h)
 have ba:=Hk (fun i (hi:i<cs.length)=>cell_regrown ((O.out.cell (p:=⟨b,o+i*2+1,none⟩) am).trans (HX.out.2.1 i hi).2))
 have a8:=Hk (Ai aB aA)
 have ao:=Hk be
 have bj:P0= -1\/∃i:Nat,P0=(i:Int)/\i<cs.length:=aB▸Qbo cs ss 0
 have aR:P1= -1\/∃i:Nat,P1=(i:Int)/\i<cs.length:=aA▸Qbo cs ss 1
 clear J F K I aq q4 q5 a0 m0 f0 z4 z5 za zN aG aQ aV aB aA aX be
 have aj:=Hk (Ai (bK.out.symm.trans a8.out.1) (bE.out.symm.trans a8.out.2))
 rcases bj with rfl|⟨p,rfl,aW⟩
 ·rcases aR with rfl|⟨q,rfl,ak⟩
  ·
   have HV:=Hk (show(QaG cs x y)=7 from by unfold QaG;rw[QcG aj.out.1])
   refine wp_region_tail 34 (by kernel_rfl) (by kernel_rfl) rfl (Or.inl ⟨rfl,fun _=>rfl⟩) (fun _ _ _ h=>h) ?_
   simp only[List.drop_succ_cons,List.drop_zero,List.take_succ_cons,List.take_zero]
   repeat(any_goals(first|go_big_quiet_step (first|exact U _ _|exact T _ _ _ _ (by first|exact Or.inl ⟨rfl,rfl⟩|exact Or.inr ⟨rfl,rfl⟩))|quiet_step (first|exact U _ _|exact T _ _ _ _ (by first|exact Or.inl ⟨rfl,rfl⟩|exact Or.inr ⟨rfl,rfl⟩))))
   refine wpQuiet_nil ?_
   intro w8 ac
   obtain⟨⟨dq,E⟩,rfl⟩:=ac
   have z:=below_regrown D dq E
   clear r5 ra rN U T
   generalize Sort.grow (redrawn D dq) E=W8 at*
   have ay:=z.size
   have aa:=ao.out
   obtain⟨J,F,K,I⟩:=ah.out
   have g0:=cK z (by omega) J
   have g1:=cK z (by omega) F
   have g2:=cK z (by omega) K
   have g3:=cK z (by omega) I
   have au:wc.heap.size+1<W8.heap.size:=by omega
   have af:=Hk (Qaa O.out z)
   have ar:=Hk z
   clear J F K I z aa
   go_wp2_with (first|(go_at_call 20;refine(Qa9 false true false true (1) rfl _ _ (by simp) (by simp) (by simp) (by simp)).mono ?_;rintro e w6 ⟨rfl,B⟩;subst B)|(go_at_fn 20;refine(Qa9 false true false true (1) rfl _ _ (by simp) (by simp) (by simp) (by simp)).mono ?_;rintro e w6 ⟨rfl,B⟩;subst B))
   go_quiet (fail)
   go_wp2
   go_ret2
   exact⟨Or.inl ⟨by rw[HV.out];decide,by rw[HV.out];rfl⟩,below_drewN (Qad af.out _) _⟩
  ·
   have aw:=ba.out q ak
   have bt:(q:Int)<(n:Int):=by have:=HX.out.1;omega
   have br:(0:Int)<=(q:Int):=by omega
   have bn:max (q:Int) 0=(q:Int):=by omega
   have a5:max 0 (q:Int)=(q:Int):=by omega
   generalize cs[q].2=kx at*
   have HV:=Hk (show(QaG cs x y)=7 from by unfold QaG;rw[QcG aj.out.1])
   refine wp_region_tail 34 (by kernel_rfl) (by kernel_rfl) rfl (Or.inl ⟨rfl,fun _=>rfl⟩) (fun _ _ _ h=>h) ?_
   simp only[List.drop_succ_cons,List.drop_zero,List.take_succ_cons,List.take_zero]
   repeat(any_goals(first|go_big_quiet_step (first|exact U _ _|exact T _ _ _ _ (by first|exact Or.inl ⟨rfl,rfl⟩|exact Or.inr ⟨rfl,rfl⟩))|quiet_step (first|exact U _ _|exact T _ _ _ _ (by first|exact Or.inl ⟨rfl,rfl⟩|exact Or.inr ⟨rfl,rfl⟩))))
   refine wpQuiet_nil ?_
   intro w8 ac
   obtain⟨⟨dq,E⟩,rfl⟩:=ac
   have z:=below_regrown D dq E
   clear r5 ra rN U T aw
   generalize Sort.grow (redrawn D dq) E=W8 at*
   have ay:=z.size
   have aa:=ao.out
   obtain⟨J,F,K,I⟩:=ah.out
   have g0:=cK z (by omega) J
   have g1:=cK z (by omega) F
   have g2:=cK z (by omega) K
   have g3:=cK z (by omega) I
   have au:wc.heap.size+1<W8.heap.size:=by omega
   have af:=Hk (Qaa O.out z)
   have ar:=Hk z
   clear J F K I z aa
   go_wp2_with (first|(go_at_call 20;refine(Qa9 false true (kx != 1) ((-1:Int)==(q:Int)) (1) (Qdz _ _) _ _ (by simp) (by simp) (by simp) (by simp)).mono ?_;rintro e w6 ⟨rfl,B⟩;subst B)|(go_at_fn 20;refine(Qa9 false true (kx != 1) ((-1:Int)==(q:Int)) (1) (Qdz _ _) _ _ (by simp) (by simp) (by simp) (by simp)).mono ?_;rintro e w6 ⟨rfl,B⟩;subst B))
   go_quiet (fail)
   go_wp2
   go_ret2
   exact⟨Or.inl ⟨by rw[HV.out];decide,by rw[HV.out];rfl⟩,below_drewN (Qad af.out _) _⟩
 ·have ca:(p:Int)<(n:Int):=by have:=HX.out.1;omega
  have bU:(0:Int)<=(p:Int):=by omega
  rcases aR with rfl|⟨q,rfl,ak⟩
  ·
   have HV:=Hk (show(QaG cs x y)=7 from by unfold QaG;rw[QbU aj.out.1,QcG aj.out.2])
   refine wp_region_tail 34 (by kernel_rfl) (by kernel_rfl) rfl (Or.inl ⟨rfl,fun _=>rfl⟩) (fun _ _ _ h=>h) ?_
   simp only[List.drop_succ_cons,List.drop_zero,List.take_succ_cons,List.take_zero]
   repeat(any_goals(first|go_big_quiet_step (first|exact U _ _|exact T _ _ _ _ (by first|exact Or.inl ⟨rfl,rfl⟩|exact Or.inr ⟨rfl,rfl⟩))|quiet_step (first|exact U _ _|exact T _ _ _ _ (by first|exact Or.inl ⟨rfl,rfl⟩|exact Or.inr ⟨rfl,rfl⟩))))
   refine wpQuiet_nil ?_
   intro w8 ac
   obtain⟨⟨dq,E⟩,rfl⟩:=ac
   have z:=below_regrown D dq E
   clear r5 ra rN U T
   generalize Sort.grow (redrawn D dq) E=W8 at*
   have ay:=z.size
   have aa:=ao.out
   obtain⟨J,F,K,I⟩:=ah.out
   have g0:=cK z (by omega) J
   have g1:=cK z (by omega) F
   have g2:=cK z (by omega) K
   have g3:=cK z (by omega) I
   have au:wc.heap.size+1<W8.heap.size:=by omega
   have af:=Hk (Qaa O.out z)
   have ar:=Hk z
   clear J F K I z aa
   go_wp2_with (first|(go_at_call 20;refine(Qa9 false true false ((p:Int)==(-1:Int)) (1) (Qdz _ _) _ _ (by simp) (by simp) (by simp) (by simp)).mono ?_;rintro e w6 ⟨rfl,B⟩;subst B)|(go_at_fn 20;refine(Qa9 false true false ((p:Int)==(-1:Int)) (1) (Qdz _ _) _ _ (by simp) (by simp) (by simp) (by simp)).mono ?_;rintro e w6 ⟨rfl,B⟩;subst B))
   go_quiet (fail)
   go_wp2
   go_ret2
   exact⟨Or.inl ⟨by rw[HV.out];decide,by rw[HV.out];rfl⟩,below_drewN (Qad af.out _) _⟩
  ·
   have aw:=ba.out q ak
   have bt:(q:Int)<(n:Int):=by have:=HX.out.1;omega
   have br:(0:Int)<=(q:Int):=by omega
   have bn:max (q:Int) 0=(q:Int):=by omega
   have a5:max 0 (q:Int)=(q:Int):=by omega
   have aT:=Hk (show QaG cs x y=if cs[q].2≠1 then 13 else if p=q then 9 else 0 by unfold QaG;rw[QbU aj.out.1,QbU aj.out.2];show(if QbC cs q≠1 then(13:Int) else _)=_;rw[<-Qcd ak])
   have bJ:=Hk (show QaT (Qag cs [x,y]) cs=[cs[p],cs[q]] by simp[Qag,QaT,QbU aj.out.1,QbU aj.out.2,aW,ak])
   have aE:=Hk (Ai (HX.out.2.1 p aW) (HX.out.2.1 q ak))
   have bf:=Hk (Ai (HX.out.2.2.1 _ (List.getElem_mem aW)) (HX.out.2.2.1 _ (List.getElem_mem ak)))
   generalize cs[p]=cp at*
   generalize cs[q]=cq at*
   cases k3:(cq.2 != 1)
   ·cases k4:((p:Int)==(q:Int))
    ·
     have HV:=Hk (show(QaG cs x y)=0 from by rw[aT.out,if_neg (by simpa using k3),if_neg (by simp at k4;omega)])
     refine wp_region_tail 34 (by kernel_rfl) (by kernel_rfl) rfl (Or.inl ⟨rfl,fun _=>rfl⟩) (fun _ _ _ h=>h) ?_
     simp only[List.drop_succ_cons,List.drop_zero,List.take_succ_cons,List.take_zero]
     repeat(any_goals(first|go_big_quiet_step (first|exact U _ _|exact T _ _ _ _ (by first|exact Or.inl ⟨rfl,rfl⟩|exact Or.inr ⟨rfl,rfl⟩))|quiet_step (first|exact U _ _|exact T _ _ _ _ (by first|exact Or.inl ⟨rfl,rfl⟩|exact Or.inr ⟨rfl,rfl⟩))))
     refine wpQuiet_nil ?_
     intro w8 ac
     obtain⟨⟨dq,E⟩,rfl⟩:=ac
     have z:=below_regrown D dq E
     clear r5 ra rN U T aw
     generalize Sort.grow (redrawn D dq) E=W8 at*
     have ay:=z.size
     have aa:=ao.out
     obtain⟨J,F,K,I⟩:=ah.out
     have g0:=cK z (by omega) J
     have g1:=cK z (by omega) F
     have g2:=cK z (by omega) K
     have g3:=cK z (by omega) I
     have au:wc.heap.size+1<W8.heap.size:=by omega
     have af:=Hk (Qaa O.out z)
     have ar:=Hk z
     clear J F K I z aa
     go_wp2_with (first|(go_at_call 20;refine(Qa9 false false false false (-1) rfl _ _ (by simp) (by simp) (by simp) (by simp)).mono ?_;rintro e w6 ⟨rfl,B⟩;subst B)|(go_at_fn 20;refine(Qa9 false false false false (-1) rfl _ _ (by simp) (by simp) (by simp) (by simp)).mono ?_;rintro e w6 ⟨rfl,B⟩;subst B))
     obtain⟨M,aD⟩:∃Wq,Wq=W8.alloc (.cells #[.bool false,.bool (decide ((p:Int)<0)||decide ((q:Int)<0)),.bool false,.bool false] 4):=⟨_,rfl⟩
     rw[<-aD]
     have ax:Below D.heap.size D M:=by rw[aD];exact Qad ar.out _
     have cb:M.heap.size=W8.heap.size+1:=by rw[aD];simp
     clear aD
     have b8:=Hk ax
     have av:=Hk (Qaa O.out ax)
     have KG:=Hk (fun V (h:Below M.heap.size M V)=>(Ai (cK (Qaa ax h) (unb a9.out) a9.out) (Ai (cK (Qaa av.out h) am aE.out.1.1) (Ai (cK (Qaa av.out h) am aE.out.1.2) (Ai (cK (Qaa av.out h) am aE.out.2.1) (cK (Qaa av.out h) am aE.out.2.2))))))
     have bH:=Hk (fun X k V (h:Below M.heap.size M V) hd=>bB.out X k V (Qaa ax h) hd)
     clear ax g0 g1 g2 g3
     go_region_held3 (fun w'=>w'.cell? ⟨A,0,none⟩=some (.slice (some ⟨b,o,none⟩) n c)/\w'.cell? ⟨b,o+p*2,none⟩=some (.string cp.1)/\w'.cell? ⟨b,o+p*2+1,none⟩=some (.int .i64 cp.2)/\w'.cell? ⟨b,o+q*2,none⟩=some (.string cq.1)/\w'.cell? ⟨b,o+q*2+1,none⟩=some (.int .i64 cq.2)) (exact KG.out _ (by(repeat' (first|with_reducible exact ap|with_reducible exact Z|with_reducible exact Below.refl _ _|with_reducible refine Below.drew ?_|with_reducible refine Qad ?_ _|(show M.heap.size<=_;simp;done)|(show M.heap.size<=_;simp;omega))))) (first|(go_at_call 18;refine(bH.out _ _ _ (by(repeat' (first|with_reducible exact ap|with_reducible exact Z|with_reducible exact Below.refl _ _|with_reducible refine Below.drew ?_|with_reducible refine Qad ?_ _|(show M.heap.size<=_;simp;done)|(show M.heap.size<=_;simp;omega)))) (by first|exact Or.inl ⟨rfl,rfl⟩|exact Or.inr ⟨rfl,rfl⟩)).mono ?_;first|(have bC:=Z;clear bC;rintro e bc ⟨rfl,bA⟩;have ap:=Qaa (show Below M.heap.size M _ from(by(repeat' (first|with_reducible exact ap|with_reducible exact Z|with_reducible exact Below.refl _ _|with_reducible refine Below.drew ?_|with_reducible refine Qad ?_ _|(show M.heap.size<=_;simp;done)|(show M.heap.size<=_;simp;omega))))) bA)|(rintro e b9 ⟨rfl,bv⟩;have Z:=Qaa (show Below M.heap.size M _ from(by(repeat' (first|with_reducible exact ap|with_reducible exact Z|with_reducible exact Below.refl _ _|with_reducible refine Below.drew ?_|with_reducible refine Qad ?_ _|(show M.heap.size<=_;simp;done)|(show M.heap.size<=_;simp;omega))))) bv)))
     all_goals go_wp2_with fail
     all_goals go_wp2
     all_goals go_ret2
     all_goals refine⟨Or.inr ⟨HV.out,bc.heap.size+1,1,rfl,by have:=ap.size;omega,by simp,?_⟩,Qaa av.out (by(repeat' (first|with_reducible exact ap|with_reducible exact Z|with_reducible exact Below.refl _ _|with_reducible refine Below.drew ?_|with_reducible refine Qad ?_ _|(show M.heap.size<=_;simp;done)|(show M.heap.size<=_;simp;omega))))⟩
     all_goals intro i hi
     all_goals obtain rfl:i=0:=by simp at hi;omega
     all_goals refine⟨.slice (some ⟨bc.heap.size,0,none⟩) 2 2,?_,?_⟩
     ·simp
     ·show Qav _ _ (QaT (Qag cs [x,y]) cs);rw[bJ.out];exact QlH _ cp cq bf.out.1 bf.out.2 _ _ _
    ·
     have HV:=Hk (show(QaG cs x y)=9 from by rw[aT.out,if_neg (by simpa using k3),if_pos (by simp at k4;omega)])
     refine wp_region_tail 34 (by kernel_rfl) (by kernel_rfl) rfl (Or.inl ⟨rfl,fun _=>rfl⟩) (fun _ _ _ h=>h) ?_
     simp only[List.drop_succ_cons,List.drop_zero,List.take_succ_cons,List.take_zero]
     repeat(any_goals(first|go_big_quiet_step (first|exact U _ _|exact T _ _ _ _ (by first|exact Or.inl ⟨rfl,rfl⟩|exact Or.inr ⟨rfl,rfl⟩))|quiet_step (first|exact U _ _|exact T _ _ _ _ (by first|exact Or.inl ⟨rfl,rfl⟩|exact Or.inr ⟨rfl,rfl⟩))))
     refine wpQuiet_nil ?_
     intro w8 ac
     obtain⟨⟨dq,E⟩,rfl⟩:=ac
     have z:=below_regrown D dq E
     clear r5 ra rN U T aw
     generalize Sort.grow (redrawn D dq) E=W8 at*
     have ay:=z.size
     have aa:=ao.out
     obtain⟨J,F,K,I⟩:=ah.out
     have g0:=cK z (by omega) J
     have g1:=cK z (by omega) F
     have g2:=cK z (by omega) K
     have g3:=cK z (by omega) I
     have au:wc.heap.size+1<W8.heap.size:=by omega
     have af:=Hk (Qaa O.out z)
     have ar:=Hk z
     clear J F K I z aa
     go_wp2_with (first|(go_at_call 20;refine(Qa9 false false false true (3) rfl _ _ (by simp) (by simp) (by simp) (by simp)).mono ?_;rintro e w6 ⟨rfl,B⟩;subst B)|(go_at_fn 20;refine(Qa9 false false false true (3) rfl _ _ (by simp) (by simp) (by simp) (by simp)).mono ?_;rintro e w6 ⟨rfl,B⟩;subst B))
     go_quiet (fail)
     go_wp2
     go_ret2
     exact⟨Or.inl ⟨by rw[HV.out];decide,by rw[HV.out];rfl⟩,below_drewN (Qad af.out _) _⟩
   ·
    have HV:=Hk (show(QaG cs x y)=13 from by rw[aT.out,if_pos (by simpa using k3)])
    refine wp_region_tail 34 (by kernel_rfl) (by kernel_rfl) rfl (Or.inl ⟨rfl,fun _=>rfl⟩) (fun _ _ _ h=>h) ?_
    simp only[List.drop_succ_cons,List.drop_zero,List.take_succ_cons,List.take_zero]
    repeat(any_goals(first|go_big_quiet_step (first|exact U _ _|exact T _ _ _ _ (by first|exact Or.inl ⟨rfl,rfl⟩|exact Or.inr ⟨rfl,rfl⟩))|quiet_step (first|exact U _ _|exact T _ _ _ _ (by first|exact Or.inl ⟨rfl,rfl⟩|exact Or.inr ⟨rfl,rfl⟩))))
    refine wpQuiet_nil ?_
    intro w8 ac
    obtain⟨⟨dq,E⟩,rfl⟩:=ac
    have z:=below_regrown D dq E
    clear r5 ra rN U T aw
    generalize Sort.grow (redrawn D dq) E=W8 at*
    have ay:=z.size
    have aa:=ao.out
    obtain⟨J,F,K,I⟩:=ah.out
    have g0:=cK z (by omega) J
    have g1:=cK z (by omega) F
    have g2:=cK z (by omega) K
    have g3:=cK z (by omega) I
    have au:wc.heap.size+1<W8.heap.size:=by omega
    have af:=Hk (Qaa O.out z)
    have ar:=Hk z
    clear J F K I z aa
    go_wp2_with (first|(go_at_call 20;refine(Qa9 false false true ((p:Int)==(q:Int)) (2) (QgO _) _ _ (by simp) (by simp) (by simp) (by simp)).mono ?_;rintro e w6 ⟨rfl,B⟩;subst B)|(go_at_fn 20;refine(Qa9 false false true ((p:Int)==(q:Int)) (2) (QgO _) _ _ (by simp) (by simp) (by simp) (by simp)).mono ?_;rintro e w6 ⟨rfl,B⟩;subst B))
    go_quiet (fail)
    go_wp2
    go_ret2
    exact⟨Or.inl ⟨by rw[HV.out];decide,by rw[HV.out];rfl⟩,below_drewN (Qad af.out _) _⟩
end Go.Proofs.YtofidnijfnhpaaaGreatDoor
