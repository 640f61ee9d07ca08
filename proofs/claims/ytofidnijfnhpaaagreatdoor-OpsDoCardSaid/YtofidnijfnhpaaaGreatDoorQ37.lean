import Derived.Test.YtofidnijfnhpaaaGreatDoorQ01
import Derived.Test.YtofidnijfnhpaaaGreatDoorQ36
set_option linter.unusedSimpArgs false
set_option linter.unusedVariables false
set_option linter.unusedSectionVars false
set_option maxRecDepth 1000000
set_option maxHeartbeats 16000000
namespace Go.Proofs.YtofidnijfnhpaaaGreatDoor
open Go.RowKit
theorem QhC (hb ho aP b o n c oc:Nat) (oa:Option Addr) (cs:List Cl) (ss:List ByteArray) (j:Jb) (w:World) (aO:hb<w.heap.size) (h0:w.cell? ⟨hb,ho,none⟩=some (.slice (some ⟨b,o,none⟩) n c)) (aD:QaX w j.cols ss) (bg:ss.length<=100) (hn:cs.length=n) (bt:1<=n) (bD:n<=40) (bJ:n<=c) (aE:b<w.heap.size) (hc:Qas w b o cs) (hsz:∀x∈cs,x.1.size<=maxLen) (ai:j.code=8) (hj:j.outs=.slice oa 1 oc) (hE:Env w) (bm:j.op.size<=1000000) (bh:ss.length=2) (bk:(decide (j.op.data.toList=[115,117,109])||decide (j.op.data.toList=[109,97,120]))=false):
 Calls Tryz.prog 9 #[.agg j.cells,.slice (some ⟨hb,ho,none⟩) 1 aP] w fun e w'=>QaO e w' w.heap.size 1 [cs]/\Below w.heap.size w w':=by
 have bE:=mkF
 obtain⟨sv,al⟩:∃q,j.cols=q:=⟨_,rfl⟩
 obtain⟨sa,sc,rfl,bz,bw,am⟩:=al▸aD
 have bj:=Hk al
 have ar:=Hk (fun V (h:Below w.heap.size w V)=>QdS j.op V (hE.below h) bm)
 have bH:((ss.length:Int) != 2)=false:=by simp;omega
 clear bh
 rw[bk] at ar
 have Z:=Hk (Ai hn (Ai hc (Ai hsz (Ai h0 aD))))
 refine Qa6 hb ho 1 aP 1 ss.length sc oc n c oa sa (some ⟨b,o,none⟩) j w aO h0 (by rw[ai];rfl) (by decide) hj al _ ?_
 iterate 226 intro _
 intro A N wc E
 clear aD h0 hn hc hsz am
 have HW:=Hk E.bel
 have bA:=E.big
 have aR:w.heap.size<wc.heap.size:=by omega
 have bL:hb<wc.heap.size:=by omega
 have a0:=E.a0
 have m0:=E.m0
 have bn:=E.Al
 have bp:=E.Nl
 have bB:=E.A0
 have bG:=E.N0
 have aC:=Hk (show∀k v,(#[.int .i64 j.at_,.int .i64 8,.slice oa 1 oc,j.ins,.slice sa ss.length sc,.string j.op,.string j.left.1,.int .i64 j.left.2.1,.int .i64 j.left.2.2.1,.string j.left.2.2.2,.string j.right.1,.int .i64 j.right.2.1,.int .i64 j.right.2.2.1,.string j.right.2.2.2,.int .i64 j.retry]:Array Value)[k]? =some v->wc.cell? ⟨w.heap.size,k,none⟩=some v from fun k v hk=>E.job k v (by unfold Jb.cells;rw[hj,ai,al];exact hk))
 have f0:=cK HW.out aO Z.out.2.2.2.1
 clear E
 conv=>arg 2;whnf
 have j1:wc.cell? ⟨w.heap.size,1,none⟩=some (.int .i64 8):=aC.out 1 _ rfl
 have bI:=Hk (show∀V,Below w.heap.size w V->Qav V (.slice (some ⟨b,o,none⟩) n c) cs from fun V h=>⟨some ⟨b,o,none⟩,c,by rw[Z.out.1],by have:=Z.out.1;omega,Z.out.2.2.1,Or.inr ⟨b,o,rfl,by have:=h.size;omega,Z.out.2.1.below h aE⟩⟩)
 have q4:wc.cell? ⟨w.heap.size,4,none⟩=some (.slice sa ss.length sc):=aC.out 4 _ rfl
 have q5:wc.cell? ⟨w.heap.size,5,none⟩=some (.string j.op):=aC.out 5 _ rfl
 have am:QaX w (.slice sa ss.length sc) ss:=bj.out▸Z.out.2.2.2.2
 go_upto_region 32 with fail
 obtain⟨B,O⟩:∃q,q=(wc.alloc (.cells #[.slice (some ⟨b,o,none⟩) n c] 33)).alloc (.cells #[.int .i64 1,.int .i64 7,.int .i64 13,.int .i64 9] 40):=⟨_,rfl⟩
 rw[<-O]
 have J:B.cell? ⟨wc.heap.size+1,0,none⟩=some (.int .i64 1):=by rw[O,show wc.heap.size+1=(wc.alloc (.cells #[.slice (some ⟨b,o,none⟩) n c] 33)).heap.size by simp];simp
 have F:B.cell? ⟨wc.heap.size+1,1,none⟩=some (.int .i64 7):=by rw[O,show wc.heap.size+1=(wc.alloc (.cells #[.slice (some ⟨b,o,none⟩) n c] 33)).heap.size by simp];simp
 have K:B.cell? ⟨wc.heap.size+1,2,none⟩=some (.int .i64 13):=by rw[O,show wc.heap.size+1=(wc.alloc (.cells #[.slice (some ⟨b,o,none⟩) n c] 33)).heap.size by simp];simp
 have I:B.cell? ⟨wc.heap.size+1,3,none⟩=some (.int .i64 9):=by rw[O,show wc.heap.size+1=(wc.alloc (.cells #[.slice (some ⟨b,o,none⟩) n c] 33)).heap.size by simp];simp
 have aQ:B.heap.size=wc.heap.size+2:=by rw[O];simp
 have ae:Below wc.heap.size wc B:=by rw[O];exact Qad (Qab _ _) _
 clear O
 have M:=Hk (Qaa HW.out ae)
 have af:=Hk (Ai J (Ai F (Ai K I)))
 have z4:=cK ae aR q4
 have z5:=cK ae aR q5
 have za:=cK ae bn a0
 have zN:=cK ae bp m0
 have ay:=Hk (show∀(i:Nat) V,i<=100->Below B.heap.size B V->Calls Tryz.prog 18 #[.int .i64 i,.pointer (some ⟨N,0,none⟩),.pointer (some ⟨A,0,none⟩),.pointer (some ⟨w.heap.size,0,none⟩)] V fun e w'=>e=.returned (.int .i64 (QdH cs ss i))/\Below V.heap.size V w' from fun i V hi100 h=>QdR N A w.heap.size b o n c ss.length (.slice sa ss.length sc) cs ss i V (cK h (unb zN) zN) (cK h (unb za) za) (cK h (unb z4) z4) (am.below (Qaa M.out h)) rfl bg hi100 Z.out.1 (by omega) (by have:=(Qaa M.out h).size;omega) (Z.out.2.1.below (Qaa M.out h) aE))
 obtain⟨P0,ak⟩:∃q,QdH cs ss 0=q:=⟨_,rfl⟩
 obtain⟨P1,aj⟩:∃q,QdH cs ss 1=q:=⟨_,rfl⟩
 have ax:∀(X:Int) (k:Int) (V:World),Below B.heap.size B V->(X=0/\k=P0\/X=1/\k=P1)->Calls Tryz.prog 18 #[.int .i64 X,.pointer (some ⟨N,0,none⟩),.pointer (some ⟨A,0,none⟩),.pointer (some ⟨w.heap.size,0,none⟩)] V fun e w'=>e=.returned (.int .i64 k)/\Below V.heap.size V w':=by
  rintro X k V hV (⟨rfl,rfl⟩|⟨rfl,rfl⟩)
  ·rw[<-ak];exact ay.out 0 V (by decide) hV
  ·rw[<-aj];exact ay.out 1 V (by decide) hV
 have bC:=Hk ax
 have r5:=cell_regrown z5
 have ra:=cell_regrown za
 have rN:=cell_regrown zN
 have bv:=Hk za
 have U:=fun d os=>Calls.regrown_of ((ar.out (Sort.grow (redrawn B d) os) (Qaa M.out (below_regrown B d os))).mono fun e w' ⟨h1,h2⟩=>⟨h1,h2▸Below.refl _ _⟩)
 have T:=fun X k d os h=>Calls.regrown_of (ax X k (Sort.grow (redrawn B d) os) (below_regrown B d os) h)
 have aN:=Hk (fun i (hi:i<cs.length)=>cell_regrown ((M.out.cell (p:=⟨b,o+i*2+1,none⟩) aE).trans (Z.out.2.1 i hi).2))
 have bu:=Hk (Ai ak aj)
 have ah:=Hk aQ
 have aU:P0= -1\/∃i:Nat,P0=(i:Int)/\i<cs.length:=ak▸Qbo cs ss 0
 have au:P1= -1\/∃i:Nat,P1=(i:Int)/\i<cs.length:=aj▸Qbo cs ss 1
 clear J F K I ae q4 q5 a0 m0 f0 z4 z5 za zN am ar ax ak aj ay aQ
 rcases aU with rfl|⟨p,rfl,bF⟩
 ·rcases au with rfl|⟨q,rfl,aq⟩
  ·
   refine wp_region_tail 34 (by kernel_rfl) (by kernel_rfl) rfl (Or.inl ⟨rfl,fun _=>rfl⟩) (fun _ _ _ h=>h) ?_
   simp only[List.drop_succ_cons,List.drop_zero,List.take_succ_cons,List.take_zero]
   repeat(any_goals(first|go_big_quiet_step (first|exact U _ _|exact T _ _ _ _ (by first|exact Or.inl ⟨rfl,rfl⟩|exact Or.inr ⟨rfl,rfl⟩))|quiet_step (first|exact U _ _|exact T _ _ _ _ (by first|exact Or.inl ⟨rfl,rfl⟩|exact Or.inr ⟨rfl,rfl⟩))))
   refine wpQuiet_nil ?_
   intro w8 ad
   obtain⟨⟨dq,D⟩,rfl⟩:=ad
   have y:=below_regrown B dq D
   clear r5 ra rN U T
   generalize Sort.grow (redrawn B dq) D=W8 at*
   have aG:=y.size
   have aa:=ah.out
   obtain⟨J,F,K,I⟩:=af.out
   have g0:=cK y (by omega) J
   have g1:=cK y (by omega) F
   have g2:=cK y (by omega) K
   have g3:=cK y (by omega) I
   have aw:wc.heap.size+1<W8.heap.size:=by omega
   have ac:=Hk (Qaa M.out y)
   have aB:=Hk y
   clear J F K I y aa
   go_wp2_with (first|(go_at_call 20;refine(Qa9 true true false true (0) rfl _ _ (by simp) (by simp) (by simp) (by simp)).mono ?_;rintro e w6 ⟨rfl,z⟩;subst z)|(go_at_fn 20;refine(Qa9 true true false true (0) rfl _ _ (by simp) (by simp) (by simp) (by simp)).mono ?_;rintro e w6 ⟨rfl,z⟩;subst z))
   go_quiet (fail)
   go_wp2
   go_ret2
   exact⟨Or.inl ⟨by decide,rfl⟩,below_drewN (Qad ac.out _) _⟩
  ·
   have az:=aN.out q aq
   have bc:(q:Int)<(n:Int):=by have:=Z.out.1;omega
   have ba:(0:Int)<=(q:Int):=by omega
   have a5:max (q:Int) 0=(q:Int):=by omega
   have aI:max 0 (q:Int)=(q:Int):=by omega
   generalize cs[q].2=kx at*
   refine wp_region_tail 34 (by kernel_rfl) (by kernel_rfl) rfl (Or.inl ⟨rfl,fun _=>rfl⟩) (fun _ _ _ h=>h) ?_
   simp only[List.drop_succ_cons,List.drop_zero,List.take_succ_cons,List.take_zero]
   repeat(any_goals(first|go_big_quiet_step (first|exact U _ _|exact T _ _ _ _ (by first|exact Or.inl ⟨rfl,rfl⟩|exact Or.inr ⟨rfl,rfl⟩))|quiet_step (first|exact U _ _|exact T _ _ _ _ (by first|exact Or.inl ⟨rfl,rfl⟩|exact Or.inr ⟨rfl,rfl⟩))))
   refine wpQuiet_nil ?_
   intro w8 ad
   obtain⟨⟨dq,D⟩,rfl⟩:=ad
   have y:=below_regrown B dq D
   clear r5 ra rN U T az
   generalize Sort.grow (redrawn B dq) D=W8 at*
   have aG:=y.size
   have aa:=ah.out
   obtain⟨J,F,K,I⟩:=af.out
   have g0:=cK y (by omega) J
   have g1:=cK y (by omega) F
   have g2:=cK y (by omega) K
   have g3:=cK y (by omega) I
   have aw:wc.heap.size+1<W8.heap.size:=by omega
   have ac:=Hk (Qaa M.out y)
   have aB:=Hk y
   clear J F K I y aa
   go_wp2_with (first|(go_at_call 20;refine(Qa9 true true (kx != 1) ((-1:Int)==(q:Int)) (0) (Qbv _ _ _) _ _ (by simp) (by simp) (by simp) (by simp)).mono ?_;rintro e w6 ⟨rfl,z⟩;subst z)|(go_at_fn 20;refine(Qa9 true true (kx != 1) ((-1:Int)==(q:Int)) (0) (Qbv _ _ _) _ _ (by simp) (by simp) (by simp) (by simp)).mono ?_;rintro e w6 ⟨rfl,z⟩;subst z))
   go_quiet (fail)
   go_wp2
   go_ret2
   exact⟨Or.inl ⟨by decide,rfl⟩,below_drewN (Qad ac.out _) _⟩
 ·have bK:(p:Int)<(n:Int):=by have:=Z.out.1;omega
  have bx:(0:Int)<=(p:Int):=by omega
  rcases au with rfl|⟨q,rfl,aq⟩
  ·
   refine wp_region_tail 34 (by kernel_rfl) (by kernel_rfl) rfl (Or.inl ⟨rfl,fun _=>rfl⟩) (fun _ _ _ h=>h) ?_
   simp only[List.drop_succ_cons,List.drop_zero,List.take_succ_cons,List.take_zero]
   repeat(any_goals(first|go_big_quiet_step (first|exact U _ _|exact T _ _ _ _ (by first|exact Or.inl ⟨rfl,rfl⟩|exact Or.inr ⟨rfl,rfl⟩))|quiet_step (first|exact U _ _|exact T _ _ _ _ (by first|exact Or.inl ⟨rfl,rfl⟩|exact Or.inr ⟨rfl,rfl⟩))))
   refine wpQuiet_nil ?_
   intro w8 ad
   obtain⟨⟨dq,D⟩,rfl⟩:=ad
   have y:=below_regrown B dq D
   clear r5 ra rN U T
   generalize Sort.grow (redrawn B dq) D=W8 at*
   have aG:=y.size
   have aa:=ah.out
   obtain⟨J,F,K,I⟩:=af.out
   have g0:=cK y (by omega) J
   have g1:=cK y (by omega) F
   have g2:=cK y (by omega) K
   have g3:=cK y (by omega) I
   have aw:wc.heap.size+1<W8.heap.size:=by omega
   have ac:=Hk (Qaa M.out y)
   have aB:=Hk y
   clear J F K I y aa
   go_wp2_with (first|(go_at_call 20;refine(Qa9 true true false ((p:Int)==(-1:Int)) (0) (Qbv _ _ _) _ _ (by simp) (by simp) (by simp) (by simp)).mono ?_;rintro e w6 ⟨rfl,z⟩;subst z)|(go_at_fn 20;refine(Qa9 true true false ((p:Int)==(-1:Int)) (0) (Qbv _ _ _) _ _ (by simp) (by simp) (by simp) (by simp)).mono ?_;rintro e w6 ⟨rfl,z⟩;subst z))
   go_quiet (fail)
   go_wp2
   go_ret2
   exact⟨Or.inl ⟨by decide,rfl⟩,below_drewN (Qad ac.out _) _⟩
  ·
   have az:=aN.out q aq
   have bc:(q:Int)<(n:Int):=by have:=Z.out.1;omega
   have ba:(0:Int)<=(q:Int):=by omega
   have a5:max (q:Int) 0=(q:Int):=by omega
   have aI:max 0 (q:Int)=(q:Int):=by omega
   generalize cs[q].2=kx at*
   refine wp_region_tail 34 (by kernel_rfl) (by kernel_rfl) rfl (Or.inl ⟨rfl,fun _=>rfl⟩) (fun _ _ _ h=>h) ?_
   simp only[List.drop_succ_cons,List.drop_zero,List.take_succ_cons,List.take_zero]
   repeat(any_goals(first|go_big_quiet_step (first|exact U _ _|exact T _ _ _ _ (by first|exact Or.inl ⟨rfl,rfl⟩|exact Or.inr ⟨rfl,rfl⟩))|quiet_step (first|exact U _ _|exact T _ _ _ _ (by first|exact Or.inl ⟨rfl,rfl⟩|exact Or.inr ⟨rfl,rfl⟩))))
   refine wpQuiet_nil ?_
   intro w8 ad
   obtain⟨⟨dq,D⟩,rfl⟩:=ad
   have y:=below_regrown B dq D
   clear r5 ra rN U T az
   generalize Sort.grow (redrawn B dq) D=W8 at*
   have aG:=y.size
   have aa:=ah.out
   obtain⟨J,F,K,I⟩:=af.out
   have g0:=cK y (by omega) J
   have g1:=cK y (by omega) F
   have g2:=cK y (by omega) K
   have g3:=cK y (by omega) I
   have aw:wc.heap.size+1<W8.heap.size:=by omega
   have ac:=Hk (Qaa M.out y)
   have aB:=Hk y
   clear J F K I y aa
   go_wp2_with (first|(go_at_call 20;refine(Qa9 true false (kx != 1) ((p:Int)==(q:Int)) (0) (Qbv _ _ _) _ _ (by simp) (by simp) (by simp) (by simp)).mono ?_;rintro e w6 ⟨rfl,z⟩;subst z)|(go_at_fn 20;refine(Qa9 true false (kx != 1) ((p:Int)==(q:Int)) (0) (Qbv _ _ _) _ _ (by simp) (by simp) (by simp) (by simp)).mono ?_;rintro e w6 ⟨rfl,z⟩;subst z))
   go_quiet (fail)
   go_wp2
   go_ret2
   exact⟨Or.inl ⟨by decide,rfl⟩,below_drewN (Qad ac.out _) _⟩
theorem QhD (hb ho aP b o n c oc:Nat) (oa:Option Addr) (cs:List Cl) (ss:List ByteArray) (j:Jb) (w:World) (aO:hb<w.heap.size) (h0:w.cell? ⟨hb,ho,none⟩=some (.slice (some ⟨b,o,none⟩) n c)) (aC:QaX w j.cols ss) (bg:ss.length<=100) (hn:cs.length=n) (br:1<=n) (bB:n<=40) (bI:n<=c) (aD:b<w.heap.size) (hc:Qas w b o cs) (hsz:∀x∈cs,x.1.size<=maxLen) (ai:j.code=8) (hj:j.outs=.slice oa 1 oc) (hE:Env w) (bk:j.op.size<=1000000) (bC:ss.length≠2):
 Calls Tryz.prog 9 #[.agg j.cells,.slice (some ⟨hb,ho,none⟩) 1 aP] w fun e w'=>QaO e w' w.heap.size 1 [cs]/\Below w.heap.size w w':=by
 have bD:=mkF
 obtain⟨sv,al⟩:∃q,j.cols=q:=⟨_,rfl⟩
 obtain⟨sa,sc,rfl,bw,bu,am⟩:=al▸aC
 have bi:=Hk al
 have aM:=Hk (fun V (h:Below w.heap.size w V)=>QdS j.op V (hE.below h) bk)
 have bG:((ss.length:Int) != 2)=true:=by simp;omega
 have Z:=Hk (Ai hn (Ai hc (Ai hsz (Ai h0 aC))))
 refine Qa6 hb ho 1 aP 1 ss.length sc oc n c oa sa (some ⟨b,o,none⟩) j w aO h0 (by rw[ai];rfl) (by decide) hj al _ ?_
 iterate 226 intro _
 intro A N wc E
 clear aC h0 hn hc hsz am
 have HW:=Hk E.bel
 have bx:=E.big
 have aR:w.heap.size<wc.heap.size:=by omega
 have bK:hb<wc.heap.size:=by omega
 have a0:=E.a0
 have m0:=E.m0
 have bl:=E.Al
 have bn:=E.Nl
 have bz:=E.A0
 have bF:=E.N0
 have aB:=Hk (show∀k v,(#[.int .i64 j.at_,.int .i64 8,.slice oa 1 oc,j.ins,.slice sa ss.length sc,.string j.op,.string j.left.1,.int .i64 j.left.2.1,.int .i64 j.left.2.2.1,.string j.left.2.2.2,.string j.right.1,.int .i64 j.right.2.1,.int .i64 j.right.2.2.1,.string j.right.2.2.2,.int .i64 j.retry]:Array Value)[k]? =some v->wc.cell? ⟨w.heap.size,k,none⟩=some v from fun k v hk=>E.job k v (by unfold Jb.cells;rw[hj,ai,al];exact hk))
 have f0:=cK HW.out aO Z.out.2.2.2.1
 clear E
 conv=>arg 2;whnf
 have j1:wc.cell? ⟨w.heap.size,1,none⟩=some (.int .i64 8):=aB.out 1 _ rfl
 have bH:=Hk (show∀V,Below w.heap.size w V->Qav V (.slice (some ⟨b,o,none⟩) n c) cs from fun V h=>⟨some ⟨b,o,none⟩,c,by rw[Z.out.1],by have:=Z.out.1;omega,Z.out.2.2.1,Or.inr ⟨b,o,rfl,by have:=h.size;omega,Z.out.2.1.below h aD⟩⟩)
 have q4:wc.cell? ⟨w.heap.size,4,none⟩=some (.slice sa ss.length sc):=aB.out 4 _ rfl
 have q5:wc.cell? ⟨w.heap.size,5,none⟩=some (.string j.op):=aB.out 5 _ rfl
 have am:QaX w (.slice sa ss.length sc) ss:=bi.out▸Z.out.2.2.2.2
 go_upto_region 32 with fail
 obtain⟨B,O⟩:∃q,q=(wc.alloc (.cells #[.slice (some ⟨b,o,none⟩) n c] 33)).alloc (.cells #[.int .i64 1,.int .i64 7,.int .i64 13,.int .i64 9] 40):=⟨_,rfl⟩
 rw[<-O]
 have J:B.cell? ⟨wc.heap.size+1,0,none⟩=some (.int .i64 1):=by rw[O,show wc.heap.size+1=(wc.alloc (.cells #[.slice (some ⟨b,o,none⟩) n c] 33)).heap.size by simp];simp
 have F:B.cell? ⟨wc.heap.size+1,1,none⟩=some (.int .i64 7):=by rw[O,show wc.heap.size+1=(wc.alloc (.cells #[.slice (some ⟨b,o,none⟩) n c] 33)).heap.size by simp];simp
 have K:B.cell? ⟨wc.heap.size+1,2,none⟩=some (.int .i64 13):=by rw[O,show wc.heap.size+1=(wc.alloc (.cells #[.slice (some ⟨b,o,none⟩) n c] 33)).heap.size by simp];simp
 have I:B.cell? ⟨wc.heap.size+1,3,none⟩=some (.int .i64 9):=by rw[O,show wc.heap.size+1=(wc.alloc (.cells #[.slice (some ⟨b,o,none⟩) n c] 33)).heap.size by simp];simp
 have aQ:B.heap.size=wc.heap.size+2:=by rw[O];simp
 have ae:Below wc.heap.size wc B:=by rw[O];exact Qad (Qab _ _) _
 clear O
 have M:=Hk (Qaa HW.out ae)
 have af:=Hk (Ai J (Ai F (Ai K I)))
 have z4:=cK ae aR q4
 have z5:=cK ae aR q5
 have za:=cK ae bl a0
 have zN:=cK ae bn m0
 have ax:=Hk (show∀(i:Nat) V,i<=100->Below B.heap.size B V->Calls Tryz.prog 18 #[.int .i64 i,.pointer (some ⟨N,0,none⟩),.pointer (some ⟨A,0,none⟩),.pointer (some ⟨w.heap.size,0,none⟩)] V fun e w'=>e=.returned (.int .i64 (QdH cs ss i))/\Below V.heap.size V w' from fun i V hi100 h=>QdR N A w.heap.size b o n c ss.length (.slice sa ss.length sc) cs ss i V (cK h (unb zN) zN) (cK h (unb za) za) (cK h (unb z4) z4) (am.below (Qaa M.out h)) rfl bg hi100 Z.out.1 (by omega) (by have:=(Qaa M.out h).size;omega) (Z.out.2.1.below (Qaa M.out h) aD))
 obtain⟨P0,ak⟩:∃q,QdH cs ss 0=q:=⟨_,rfl⟩
 obtain⟨P1,aj⟩:∃q,QdH cs ss 1=q:=⟨_,rfl⟩
 have aw:∀(X:Int) (k:Int) (V:World),Below B.heap.size B V->(X=0/\k=P0\/X=1/\k=P1)->Calls Tryz.prog 18 #[.int .i64 X,.pointer (some ⟨N,0,none⟩),.pointer (some ⟨A,0,none⟩),.pointer (some ⟨w.heap.size,0,none⟩)] V fun e w'=>e=.returned (.int .i64 k)/\Below V.heap.size V w':=by
  rintro X k V hV (⟨rfl,rfl⟩|⟨rfl,rfl⟩)
  ·rw[<-ak];exact ax.out 0 V (by decide) hV
  ·rw[<-aj];exact ax.out 1 V (by decide) hV
 have bA:=Hk aw
 have r5:=cell_regrown z5
 have ra:=cell_regrown za
 have rN:=cell_regrown zN
 have bt:=Hk za
 have U:=fun d os=>Calls.regrown_of ((aM.out (Sort.grow (redrawn B d) os) (Qaa M.out (below_regrown B d os))).mono fun e w' ⟨h1,h2⟩=>⟨h1,h2▸Below.refl _ _⟩)
 have T:=fun X k d os h=>Calls.regrown_of (aw X k (Sort.grow (redrawn B d) os) (below_regrown B d os) h)
 have aN:=Hk (fun i (hi:i<cs.length)=>cell_regrown ((M.out.cell (p:=⟨b,o+i*2+1,none⟩) aD).trans (Z.out.2.1 i hi).2))
 have bs:=Hk (Ai ak aj)
 have ah:=Hk aQ
 have aU:P0= -1\/∃i:Nat,P0=(i:Int)/\i<cs.length:=ak▸Qbo cs ss 0
 have ar:P1= -1\/∃i:Nat,P1=(i:Int)/\i<cs.length:=aj▸Qbo cs ss 1
 clear J F K I ae q4 q5 a0 m0 f0 z4 z5 za zN am aM aw ak aj ax aQ
 rcases aU with rfl|⟨p,rfl,bE⟩
 ·rcases ar with rfl|⟨q,rfl,aq⟩
  ·
   refine wp_region_tail 34 (by kernel_rfl) (by kernel_rfl) rfl (Or.inl ⟨rfl,fun _=>rfl⟩) (fun _ _ _ h=>h) ?_
   simp only[List.drop_succ_cons,List.drop_zero,List.take_succ_cons,List.take_zero]
   repeat(any_goals(first|go_big_quiet_step (first|exact U _ _|exact T _ _ _ _ (by first|exact Or.inl ⟨rfl,rfl⟩|exact Or.inr ⟨rfl,rfl⟩))|quiet_step (first|exact U _ _|exact T _ _ _ _ (by first|exact Or.inl ⟨rfl,rfl⟩|exact Or.inr ⟨rfl,rfl⟩))))
   refine wpQuiet_nil ?_
   intro w8 ad
   obtain⟨⟨dq,D⟩,rfl⟩:=ad
   have y:=below_regrown B dq D
   clear r5 ra rN U T
   generalize Sort.grow (redrawn B dq) D=W8 at*
   have aE:=y.size
   have aa:=ah.out
   obtain⟨J,F,K,I⟩:=af.out
   have g0:=cK y (by omega) J
   have g1:=cK y (by omega) F
   have g2:=cK y (by omega) K
   have g3:=cK y (by omega) I
   have av:wc.heap.size+1<W8.heap.size:=by omega
   have ac:=Hk (Qaa M.out y)
   have aA:=Hk y
   clear J F K I y aa
   go_wp2_with (first|(go_at_call 20;refine(Qa9 true true false true (0) rfl _ _ (by simp) (by simp) (by simp) (by simp)).mono ?_;rintro e w6 ⟨rfl,z⟩;subst z)|(go_at_fn 20;refine(Qa9 true true false true (0) rfl _ _ (by simp) (by simp) (by simp) (by simp)).mono ?_;rintro e w6 ⟨rfl,z⟩;subst z))
   go_quiet (fail)
   go_wp2
   go_ret2
   exact⟨Or.inl ⟨by decide,rfl⟩,below_drewN (Qad ac.out _) _⟩
  ·
   have ay:=aN.out q aq
   have bc:(q:Int)<(n:Int):=by have:=Z.out.1;omega
   have ba:(0:Int)<=(q:Int):=by omega
   have a5:max (q:Int) 0=(q:Int):=by omega
   have aH:max 0 (q:Int)=(q:Int):=by omega
   generalize cs[q].2=kx at*
   refine wp_region_tail 34 (by kernel_rfl) (by kernel_rfl) rfl (Or.inl ⟨rfl,fun _=>rfl⟩) (fun _ _ _ h=>h) ?_
   simp only[List.drop_succ_cons,List.drop_zero,List.take_succ_cons,List.take_zero]
   repeat(any_goals(first|go_big_quiet_step (first|exact U _ _|exact T _ _ _ _ (by first|exact Or.inl ⟨rfl,rfl⟩|exact Or.inr ⟨rfl,rfl⟩))|quiet_step (first|exact U _ _|exact T _ _ _ _ (by first|exact Or.inl ⟨rfl,rfl⟩|exact Or.inr ⟨rfl,rfl⟩))))
   refine wpQuiet_nil ?_
   intro w8 ad
   obtain⟨⟨dq,D⟩,rfl⟩:=ad
   have y:=below_regrown B dq D
   clear r5 ra rN U T ay
   generalize Sort.grow (redrawn B dq) D=W8 at*
   have aE:=y.size
   have aa:=ah.out
   obtain⟨J,F,K,I⟩:=af.out
   have g0:=cK y (by omega) J
   have g1:=cK y (by omega) F
   have g2:=cK y (by omega) K
   have g3:=cK y (by omega) I
   have av:wc.heap.size+1<W8.heap.size:=by omega
   have ac:=Hk (Qaa M.out y)
   have aA:=Hk y
   clear J F K I y aa
   go_wp2_with (first|(go_at_call 20;refine(Qa9 true true (kx != 1) ((-1:Int)==(q:Int)) (0) (Qbv _ _ _) _ _ (by simp) (by simp) (by simp) (by simp)).mono ?_;rintro e w6 ⟨rfl,z⟩;subst z)|(go_at_fn 20;refine(Qa9 true true (kx != 1) ((-1:Int)==(q:Int)) (0) (Qbv _ _ _) _ _ (by simp) (by simp) (by simp) (by simp)).mono ?_;rintro e w6 ⟨rfl,z⟩;subst z))
   go_quiet (fail)
   go_wp2
   go_ret2
   exact⟨Or.inl ⟨by decide,rfl⟩,below_drewN (Qad ac.out _) _⟩
 ·have bJ:(p:Int)<(n:Int):=by have:=Z.out.1;omega
  have bv:(0:Int)<=(p:Int):=by omega
  rcases ar with rfl|⟨q,rfl,aq⟩
  ·
   refine wp_region_tail 34 (by kernel_rfl) (by kernel_rfl) rfl (Or.inl ⟨rfl,fun _=>rfl⟩) (fun _ _ _ h=>h) ?_
   simp only[List.drop_succ_cons,List.drop_zero,List.take_succ_cons,List.take_zero]
   repeat(any_goals(first|go_big_quiet_step (first|exact U _ _|exact T _ _ _ _ (by first|exact Or.inl ⟨rfl,rfl⟩|exact Or.inr ⟨rfl,rfl⟩))|quiet_step (first|exact U _ _|exact T _ _ _ _ (by first|exact Or.inl ⟨rfl,rfl⟩|exact Or.inr ⟨rfl,rfl⟩))))
   refine wpQuiet_nil ?_
   intro w8 ad
   obtain⟨⟨dq,D⟩,rfl⟩:=ad
   have y:=below_regrown B dq D
   clear r5 ra rN U T
   generalize Sort.grow (redrawn B dq) D=W8 at*
   have aE:=y.size
   have aa:=ah.out
   obtain⟨J,F,K,I⟩:=af.out
   have g0:=cK y (by omega) J
   have g1:=cK y (by omega) F
   have g2:=cK y (by omega) K
   have g3:=cK y (by omega) I
   have av:wc.heap.size+1<W8.heap.size:=by omega
   have ac:=Hk (Qaa M.out y)
   have aA:=Hk y
   clear J F K I y aa
   go_wp2_with (first|(go_at_call 20;refine(Qa9 true true false ((p:Int)==(-1:Int)) (0) (Qbv _ _ _) _ _ (by simp) (by simp) (by simp) (by simp)).mono ?_;rintro e w6 ⟨rfl,z⟩;subst z)|(go_at_fn 20;refine(Qa9 true true false ((p:Int)==(-1:Int)) (0) (Qbv _ _ _) _ _ (by simp) (by simp) (by simp) (by simp)).mono ?_;rintro e w6 ⟨rfl,z⟩;subst z))
   go_quiet (fail)
   go_wp2
   go_ret2
   exact⟨Or.inl ⟨by decide,rfl⟩,below_drewN (Qad ac.out _) _⟩
  ·
   have ay:=aN.out q aq
   have bc:(q:Int)<(n:Int):=by have:=Z.out.1;omega
   have ba:(0:Int)<=(q:Int):=by omega
   have a5:max (q:Int) 0=(q:Int):=by omega
   have aH:max 0 (q:Int)=(q:Int):=by omega
   generalize cs[q].2=kx at*
   refine wp_region_tail 34 (by kernel_rfl) (by kernel_rfl) rfl (Or.inl ⟨rfl,fun _=>rfl⟩) (fun _ _ _ h=>h) ?_
   simp only[List.drop_succ_cons,List.drop_zero,List.take_succ_cons,List.take_zero]
   repeat(any_goals(first|go_big_quiet_step (first|exact U _ _|exact T _ _ _ _ (by first|exact Or.inl ⟨rfl,rfl⟩|exact Or.inr ⟨rfl,rfl⟩))|quiet_step (first|exact U _ _|exact T _ _ _ _ (by first|exact Or.inl ⟨rfl,rfl⟩|exact Or.inr ⟨rfl,rfl⟩))))
   refine wpQuiet_nil ?_
   intro w8 ad
   obtain⟨⟨dq,D⟩,rfl⟩:=ad
   have y:=below_regrown B dq D
   clear r5 ra rN U T ay
   generalize Sort.grow (redrawn B dq) D=W8 at*
   have aE:=y.size
   have aa:=ah.out
   obtain⟨J,F,K,I⟩:=af.out
   have g0:=cK y (by omega) J
   have g1:=cK y (by omega) F
   have g2:=cK y (by omega) K
   have g3:=cK y (by omega) I
   have av:wc.heap.size+1<W8.heap.size:=by omega
   have ac:=Hk (Qaa M.out y)
   have aA:=Hk y
   clear J F K I y aa
   go_wp2_with (first|(go_at_call 20;refine(Qa9 true false (kx != 1) ((p:Int)==(q:Int)) (0) (Qbv _ _ _) _ _ (by simp) (by simp) (by simp) (by simp)).mono ?_;rintro e w6 ⟨rfl,z⟩;subst z)|(go_at_fn 20;refine(Qa9 true false (kx != 1) ((p:Int)==(q:Int)) (0) (Qbv _ _ _) _ _ (by simp) (by simp) (by simp) (by simp)).mono ?_;rintro e w6 ⟨rfl,z⟩;subst z))
   go_quiet (fail)
   go_wp2
   go_ret2
   exact⟨Or.inl ⟨by decide,rfl⟩,below_drewN (Qad ac.out _) _⟩
end Go.Proofs.YtofidnijfnhpaaaGreatDoor
