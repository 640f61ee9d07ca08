import Derived.Test.YtofidnijfnhpaaaGreatDoorQ01
import Derived.Test.YtofidnijfnhpaaaGreatDoorQ36
import Derived.Test.YtofidnijfnhpaaaGreatDoorQ24
import Derived.Test.YtofidnijfnhpaaaGreatDoorQ31
import Derived.Test.YtofidnijfnhpaaaGreatDoorQ07
set_option linter.unusedSimpArgs false
set_option linter.unusedVariables false
set_option linter.unusedSectionVars false
set_option maxRecDepth 1000000
set_option maxHeartbeats 16000000
namespace Go.Proofs.YtofidnijfnhpaaaGreatDoor
open Go.RowKit
theorem QjM (hb ho bh b o n c oc:Nat) (oa:Option Addr) (cs:List Cl) (ss:List ByteArray) (j:Jb) (w:World) (bg:hb<w.heap.size) (h0:w.cell? ⟨hb,ho,none⟩=some (.slice (some ⟨b,o,none⟩) n c)) (aV:QaX w j.cols ss) (bH:ss.length<=100) (hn:cs.length=n) (b7:1<=n) (ce:n<=40) (ci:n<=c) (au:b<w.heap.size) (hc:Qas w b o cs) (hsz:∀x∈cs,x.1.size<=maxLen) (av:j.code=2) (hj:j.outs=.slice oa 1 oc) (hE:Env w) (bV:j.op.size<=1000000) (bB:j.left.2.2.2.size<=maxLen) (bA:j.right.2.2.2.size<=maxLen) (x:ByteArray) (aK:ss=[x]) (bR:inS QaF j.op.data.toList=true):
 Calls Tryz.prog 9 #[.agg j.cells,.slice (some ⟨hb,ho,none⟩) 1 bh] w fun e w'=>QaO e w' w.heap.size (Qa8 cs j x.data.toList) [cs]/\Below w.heap.size w w':=by
 have cf:=mkF
 obtain⟨sv,ax⟩:∃q,j.cols=q:=⟨_,rfl⟩
 obtain⟨sa,sc,rfl,ca,b8,az⟩:=ax▸aV
 have bQ:=Hk ax
 have aG:=Hk (fun V (h:Below w.heap.size w V)=>Qcl b o n c cs j.left V hn (by omega) (by have:=h.size;omega) (hc.below h au) bB)
 have aD:=Hk (fun V (h:Below w.heap.size w V)=>Qcl b o n c cs j.right V hn (by omega) (by have:=h.size;omega) (hc.below h au) bA)
 have aH:=Hk (fun V (h:Below w.heap.size w V)=>QcZ j.op V (hE.below h) bV)
 have ch:((ss.length:Int) != 1)=false:=by simp;rw[aK];rfl
 rw[bR] at aH
 have bL:=Hk (show QdH cs ss 0=match ss[0]? with |some s=>Qaq cs s.data.toList|none=>-1 from rfl)
 have bo:=Hk (show QdH cs ss 0=Qaq cs x.data.toList by rw[bL.out,aK];rfl)
 clear aK
 have HX:=Hk (Ai hn (Ai hc (Ai hsz (Ai h0 aV))))
 refine Qa6 hb ho 1 bh 1 ss.length sc oc n c oa sa (some ⟨b,o,none⟩) j w bg h0 (by rw[av];rfl) (by decide) hj ax _ ?_
 iterate 226 intro _
 intro A N wc aa
 clear aV h0 hn hc hsz az
 have HW:=Hk aa.bel
 have cc:=aa.big
 have Z:w.heap.size<wc.heap.size:=by omega
 have cj:hb<wc.heap.size:=by omega
 have a0:=aa.a0
 have m0:=aa.m0
 have bW:=aa.Al
 have bX:=aa.Nl
 have cd:=aa.A0
 have cg:=aa.N0
 have M:=Hk (show∀k v,(#[.int .i64 j.at_,.int .i64 2,.slice oa 1 oc,j.ins,.slice sa ss.length sc,.string j.op,.string j.left.1,.int .i64 j.left.2.1,.int .i64 j.left.2.2.1,.string j.left.2.2.2,.string j.right.1,.int .i64 j.right.2.1,.int .i64 j.right.2.2.1,.string j.right.2.2.2,.int .i64 j.retry]:Array Value)[k]? =some v->wc.cell? ⟨w.heap.size,k,none⟩=some v from fun k v hk=>aa.job k v (by unfold Jb.cells;rw[hj,av,ax];exact hk))
 have f0:=cK HW.out bg HX.out.2.2.2.1
 clear aa
 conv=>arg 2;whnf
 have j1:wc.cell? ⟨w.heap.size,1,none⟩=some (.int .i64 2):=M.out 1 _ rfl
 have bN:=Hk (show∀V,Below w.heap.size w V->Qav V (.slice (some ⟨b,o,none⟩) n c) cs from fun V h=>⟨some ⟨b,o,none⟩,c,by rw[HX.out.1],by have:=HX.out.1;omega,HX.out.2.2.1,Or.inr ⟨b,o,rfl,by have:=h.size;omega,HX.out.2.1.below h au⟩⟩)
 have q4:wc.cell? ⟨w.heap.size,4,none⟩=some (.slice sa ss.length sc):=M.out 4 _ rfl
 have q5:wc.cell? ⟨w.heap.size,5,none⟩=some (.string j.op):=M.out 5 _ rfl
 have q6:wc.cell? ⟨w.heap.size,6,none⟩=some (.string j.left.1):=M.out 6 _ rfl
 have q7:wc.cell? ⟨w.heap.size,7,none⟩=some (.int .i64 j.left.2.1):=M.out 7 _ rfl
 have q8:wc.cell? ⟨w.heap.size,8,none⟩=some (.int .i64 j.left.2.2.1):=M.out 8 _ rfl
 have q9:wc.cell? ⟨w.heap.size,9,none⟩=some (.string j.left.2.2.2):=M.out 9 _ rfl
 have bp:wc.cell? ⟨w.heap.size,10,none⟩=some (.string j.right.1):=M.out 10 _ rfl
 have ba:wc.cell? ⟨w.heap.size,11,none⟩=some (.int .i64 j.right.2.1):=M.out 11 _ rfl
 have bd:wc.cell? ⟨w.heap.size,12,none⟩=some (.int .i64 j.right.2.2.1):=M.out 12 _ rfl
 have bj:wc.cell? ⟨w.heap.size,13,none⟩=some (.string j.right.2.2.2):=M.out 13 _ rfl
 have az:QaX w (.slice sa ss.length sc) ss:=bQ.out▸HX.out.2.2.2.2
 go_upto_region 21 with fail
 obtain⟨B,ah⟩:∃q,q=(wc.alloc (.cells #[.slice (some ⟨b,o,none⟩) n c] 33)).alloc (.cells #[.int .i64 1,.int .i64 7,.int .i64 13] 40):=⟨_,rfl⟩
 rw[<-ah]
 have J:B.cell? ⟨wc.heap.size+1,0,none⟩=some (.int .i64 1):=by rw[ah,show wc.heap.size+1=(wc.alloc (.cells #[.slice (some ⟨b,o,none⟩) n c] 33)).heap.size by simp];simp
 have F:B.cell? ⟨wc.heap.size+1,1,none⟩=some (.int .i64 7):=by rw[ah,show wc.heap.size+1=(wc.alloc (.cells #[.slice (some ⟨b,o,none⟩) n c] 33)).heap.size by simp];simp
 have K:B.cell? ⟨wc.heap.size+1,2,none⟩=some (.int .i64 13):=by rw[ah,show wc.heap.size+1=(wc.alloc (.cells #[.slice (some ⟨b,o,none⟩) n c] 33)).heap.size by simp];simp
 have I:B.cell? ⟨wc.heap.size,0,none⟩=some (.slice (some ⟨b,o,none⟩) n c):=by rw[ah,World.cell?_alloc_past _ _ _ (by simp)];simp
 have bn:B.heap.size=wc.heap.size+2:=by rw[ah];simp
 have E:Below wc.heap.size wc B:=by rw[ah];exact Qad (Qab _ _) _
 clear ah
 have O:=Hk (Qaa HW.out E)
 have ai:=Hk (Ai J (Ai F (Ai K I)))
 have z4:=cK E Z q4
 have z5:=cK E Z q5
 have z6:=cK E Z q6
 have z7:=cK E Z q7
 have z8:=cK E Z q8
 have z9:=cK E Z q9
 have bf:=cK E Z bp
 have bk:=cK E Z ba
 have be:=cK E Z bd
 have bb:=cK E Z bj
 have za:=cK E bW a0
 have zN:=cK E bX m0
 have bc:=Hk (show∀V,Below B.heap.size B V->Calls Tryz.prog 18 #[.int .i64 0,.pointer (some ⟨N,0,none⟩),.pointer (some ⟨A,0,none⟩),.pointer (some ⟨w.heap.size,0,none⟩)] V fun e w'=>e=.returned (.int .i64 (QdH cs ss 0))/\Below V.heap.size V w' from fun V h=>QdR N A w.heap.size b o n c ss.length (.slice sa ss.length sc) cs ss 0 V (cK h (unb zN) zN) (cK h (unb za) za) (cK h (unb z4) z4) (az.below (Qaa O.out h)) rfl bH (by decide) HX.out.1 (by omega) (by have:=(Qaa O.out h).size;omega) (HX.out.2.1.below (Qaa O.out h) au))
 have r5:=cell_regrown z5
 have ra:=cell_regrown za
 have rN:=cell_regrown zN
 have r6:=cell_regrown z6
 have r7:=cell_regrown z7
 have r8:=cell_regrown z8
 have r9:=cell_regrown z9
 have ap:=cell_regrown bf
 have ar:=cell_regrown bk
 have am:=cell_regrown be
 have aq:=cell_regrown bb
 have CO:=fun d os=>Calls.regrown_of ((aH.out (Sort.grow (redrawn B d) os) (Qaa O.out (below_regrown B d os))).mono fun e w' ⟨h1,h2⟩=>⟨h1,h2▸Below.refl _ _⟩)
 have T:=fun d os=>Calls.regrown_of (bc.out (Sort.grow (redrawn B d) os) (below_regrown B d os))
 have bJ:=Hk (fun i (hi:i<cs.length)=>cell_regrown ((O.out.cell (p:=⟨b,o+i*2+1,none⟩) au).trans (HX.out.2.1 i hi).2))
 clear J F K I E q4 q5 q6 q7 q8 q9 bp ba bd bj a0 m0 f0 z4 z5 z6 z7 z8 z9 bf bk be bb za zN az aH
 have al:=Hk bn
 clear bn
 obtain⟨PI,aJ⟩:∃q,QdH cs ss 0=q:=⟨_,rfl⟩
 rw[aJ] at T
 have aU:=Hk aJ
 clear aJ bc
 obtain⟨kl,aP⟩:∃q,QaI cs j.left=q:=⟨_,rfl⟩
 obtain⟨kr,aR⟩:∃q,QaI cs j.right=q:=⟨_,rfl⟩
 rw[aP] at aG
 rw[aR] at aD
 have bl:∀(X:Value) (k:Int) (V:World),Below w.heap.size w V->(X=aggA j.left/\k=kl\/X=aggA j.right/\k=kr)->Calls Tryz.prog 22 #[X,.slice (some ⟨b,o,none⟩) n c] V fun e w'=>e=.returned (.int .i64 k)/\Below V.heap.size V w':=by
  rintro X k V hV (⟨rfl,rfl⟩|⟨rfl,rfl⟩)
  ·exact aG.out V hV
  ·exact aD.out V hV
 have CL:=fun X k d os h=>Calls.regrown_of (bl X k (Sort.grow (redrawn B d) os) (Qaa O.out (below_regrown B d os)) h)
 have bi:=Hk (Ai aP aR)
 clear aP aR aG aD bl
 have bP:PI= -1\/∃i:Nat,PI=(i:Int)/\i<cs.length:=aU.out▸Qbo cs ss 0
 rcases bP with rfl|⟨i,rfl,bm⟩
 ·have hp:Qak cs x.data.toList=none:=QcG (bo.out▸aU.out)
  have HV:=Hk (show(Qa8 cs j x.data.toList)=7 from by unfold Qa8;rw[hp])
  clear hp
  refine wp_region_tail 38 (by kernel_rfl) (by kernel_rfl) rfl (Or.inl ⟨rfl,fun _=>rfl⟩) (fun _ _ _ h=>h) ?_
  simp only[List.drop_succ_cons,List.drop_zero,List.take_succ_cons,List.take_zero]
  repeat(any_goals(first|go_big_quiet_step (first|exact CO _ _|exact T _ _|exact CL _ _ _ _ (by first|exact Or.inl ⟨rfl,rfl⟩|exact Or.inr ⟨rfl,rfl⟩))|quiet_step (first|exact CO _ _|exact T _ _|exact CL _ _ _ _ (by first|exact Or.inl ⟨rfl,rfl⟩|exact Or.inr ⟨rfl,rfl⟩))))
  refine wpQuiet_nil ?_
  intro w8 af
  obtain⟨⟨dq,D⟩,rfl⟩:=af
  have y:=below_regrown B dq D
  clear r5 ra rN r6 r7 r8 r9 ap ar am aq CO T CL
  generalize Sort.grow (redrawn B dq) D=W8 at*
  have aB:=y.size
  have ad:=al.out
  obtain⟨J,F,K,I⟩:=ai.out
  have g0:=cK y (by omega) J
  have g1:=cK y (by omega) F
  have g2:=cK y (by omega) K
  have ao:=Hk (cK y (by omega) I)
  have aw:wc.heap.size+1<W8.heap.size:=by omega
  have U:=Hk (Qaa O.out y)
  clear J F K I y ad
  go_wp2_with (first|(go_at_call 20;refine(QaD false true false (1) rfl _ _ (by simp) (by simp) (by simp)).mono ?_;rintro e w6 ⟨rfl,z⟩;subst z)|(go_at_fn 20;refine(QaD false true false (1) rfl _ _ (by simp) (by simp) (by simp)).mono ?_;rintro e w6 ⟨rfl,z⟩;subst z))
  go_quiet (fail)
  go_wp2
  go_ret2
  exact⟨Or.inl ⟨by rw[HV.out];decide,by rw[HV.out];rfl⟩,below_drewN (Qad U.out _) _⟩
 ·have ay:=bJ.out i bm
  have b9:(i:Int)<(n:Int):=by have:=HX.out.1;omega
  have cb:(0:Int)<=(i:Int):=by omega
  have b6:max (i:Int) 0=(i:Int):=by omega
  have bZ:max 0 (i:Int)=(i:Int):=by omega
  have aA:=Hk (show Qa8 cs j x.data.toList=if cs[i].2=1/\kl=1/\kr=1 then 0 else 13 by
   have hp:Qak cs x.data.toList=some i:=QbU (bo.out▸aU.out)
   unfold Qa8
   rw[hp,bi.out.1,bi.out.2]
   simp only[List.getElem?_eq_getElem bm,Option.getD_some])
  generalize cs[i].2=kx at*
  cases k1:(kx != 1)
  ·cases k2:(kl != 1)
   ·cases k3:(kr != 1)
    ·
     have HV:=Hk (show(Qa8 cs j x.data.toList)=0 from by rw[aA.out,if_pos ⟨by simpa using k1,by simpa using k2,by simpa using k3⟩])
     refine wp_region_tail 38 (by kernel_rfl) (by kernel_rfl) rfl (Or.inl ⟨rfl,fun _=>rfl⟩) (fun _ _ _ h=>h) ?_
     simp only[List.drop_succ_cons,List.drop_zero,List.take_succ_cons,List.take_zero]
     repeat(any_goals(first|go_big_quiet_step (first|exact CO _ _|exact T _ _|exact CL _ _ _ _ (by first|exact Or.inl ⟨rfl,rfl⟩|exact Or.inr ⟨rfl,rfl⟩))|quiet_step (first|exact CO _ _|exact T _ _|exact CL _ _ _ _ (by first|exact Or.inl ⟨rfl,rfl⟩|exact Or.inr ⟨rfl,rfl⟩))))
     refine wpQuiet_nil ?_
     intro w8 af
     obtain⟨⟨dq,D⟩,rfl⟩:=af
     have y:=below_regrown B dq D
     clear r5 ra rN r6 r7 r8 r9 ap ar am aq CO T CL ay
     generalize Sort.grow (redrawn B dq) D=W8 at*
     have aB:=y.size
     have ad:=al.out
     obtain⟨J,F,K,I⟩:=ai.out
     have g0:=cK y (by omega) J
     have g1:=cK y (by omega) F
     have g2:=cK y (by omega) K
     have ao:=Hk (cK y (by omega) I)
     have aw:wc.heap.size+1<W8.heap.size:=by omega
     have U:=Hk (Qaa O.out y)
     clear J F K I y ad
     go_wp2_with (first|(go_at_call 20;refine(QaD false false false (-1) rfl _ _ (by simp) (by simp) (by simp)).mono ?_;rintro e w6 ⟨rfl,z⟩;subst z)|(go_at_fn 20;refine(QaD false false false (-1) rfl _ _ (by simp) (by simp) (by simp)).mono ?_;rintro e w6 ⟨rfl,z⟩;subst z))
     go_ret2
     refine⟨Or.inr ⟨HV.out,wc.heap.size,1,rfl,by omega,by simp;omega,?_⟩,Qad U.out _⟩
     intro i hi
     obtain rfl:i=0:=by simp at hi;omega
     exact⟨.slice (some ⟨b,o,none⟩) n c,(World.cell?_alloc_past _ _ _ (by show wc.heap.size<_;omega)).trans ao.out,bN.out _ (Qad U.out _)⟩
    ·
     have HV:=Hk (show(Qa8 cs j x.data.toList)=13 from by rw[aA.out,if_neg (fun h=>by rw[h.2.2] at k3;cases k3)])
     refine wp_region_tail 38 (by kernel_rfl) (by kernel_rfl) rfl (Or.inl ⟨rfl,fun _=>rfl⟩) (fun _ _ _ h=>h) ?_
     simp only[List.drop_succ_cons,List.drop_zero,List.take_succ_cons,List.take_zero]
     repeat(any_goals(first|go_big_quiet_step (first|exact CO _ _|exact T _ _|exact CL _ _ _ _ (by first|exact Or.inl ⟨rfl,rfl⟩|exact Or.inr ⟨rfl,rfl⟩))|quiet_step (first|exact CO _ _|exact T _ _|exact CL _ _ _ _ (by first|exact Or.inl ⟨rfl,rfl⟩|exact Or.inr ⟨rfl,rfl⟩))))
     refine wpQuiet_nil ?_
     intro w8 af
     obtain⟨⟨dq,D⟩,rfl⟩:=af
     have y:=below_regrown B dq D
     clear r5 ra rN r6 r7 r8 r9 ap ar am aq CO T CL ay
     generalize Sort.grow (redrawn B dq) D=W8 at*
     have aB:=y.size
     have ad:=al.out
     obtain⟨J,F,K,I⟩:=ai.out
     have g0:=cK y (by omega) J
     have g1:=cK y (by omega) F
     have g2:=cK y (by omega) K
     have ao:=Hk (cK y (by omega) I)
     have aw:wc.heap.size+1<W8.heap.size:=by omega
     have U:=Hk (Qaa O.out y)
     clear J F K I y ad
     go_wp2_with (first|(go_at_call 20;refine(QaD false false true (2) rfl _ _ (by simp) (by simp) (by simp)).mono ?_;rintro e w6 ⟨rfl,z⟩;subst z)|(go_at_fn 20;refine(QaD false false true (2) rfl _ _ (by simp) (by simp) (by simp)).mono ?_;rintro e w6 ⟨rfl,z⟩;subst z))
     go_quiet (fail)
     go_wp2
     go_ret2
     exact⟨Or.inl ⟨by rw[HV.out];decide,by rw[HV.out];rfl⟩,below_drewN (Qad U.out _) _⟩
   ·
    have HV:=Hk (show(Qa8 cs j x.data.toList)=13 from by rw[aA.out,if_neg (fun h=>by rw[h.2.1] at k2;cases k2)])
    refine wp_region_tail 38 (by kernel_rfl) (by kernel_rfl) rfl (Or.inl ⟨rfl,fun _=>rfl⟩) (fun _ _ _ h=>h) ?_
    simp only[List.drop_succ_cons,List.drop_zero,List.take_succ_cons,List.take_zero]
    repeat(any_goals(first|go_big_quiet_step (first|exact CO _ _|exact T _ _|exact CL _ _ _ _ (by first|exact Or.inl ⟨rfl,rfl⟩|exact Or.inr ⟨rfl,rfl⟩))|quiet_step (first|exact CO _ _|exact T _ _|exact CL _ _ _ _ (by first|exact Or.inl ⟨rfl,rfl⟩|exact Or.inr ⟨rfl,rfl⟩))))
    refine wpQuiet_nil ?_
    intro w8 af
    obtain⟨⟨dq,D⟩,rfl⟩:=af
    have y:=below_regrown B dq D
    clear r5 ra rN r6 r7 r8 r9 ap ar am aq CO T CL ay
    generalize Sort.grow (redrawn B dq) D=W8 at*
    have aB:=y.size
    have ad:=al.out
    obtain⟨J,F,K,I⟩:=ai.out
    have g0:=cK y (by omega) J
    have g1:=cK y (by omega) F
    have g2:=cK y (by omega) K
    have ao:=Hk (cK y (by omega) I)
    have aw:wc.heap.size+1<W8.heap.size:=by omega
    have U:=Hk (Qaa O.out y)
    clear J F K I y ad
    go_wp2_with (first|(go_at_call 20;refine(QaD false false true (2) rfl _ _ (by simp) (by simp) (by simp)).mono ?_;rintro e w6 ⟨rfl,z⟩;subst z)|(go_at_fn 20;refine(QaD false false true (2) rfl _ _ (by simp) (by simp) (by simp)).mono ?_;rintro e w6 ⟨rfl,z⟩;subst z))
    go_quiet (fail)
    go_wp2
    go_ret2
    exact⟨Or.inl ⟨by rw[HV.out];decide,by rw[HV.out];rfl⟩,below_drewN (Qad U.out _) _⟩
  ·
   have HV:=Hk (show(Qa8 cs j x.data.toList)=13 from by rw[aA.out,if_neg (fun h=>by rw[h.1] at k1;cases k1)])
   refine wp_region_tail 38 (by kernel_rfl) (by kernel_rfl) rfl (Or.inl ⟨rfl,fun _=>rfl⟩) (fun _ _ _ h=>h) ?_
   simp only[List.drop_succ_cons,List.drop_zero,List.take_succ_cons,List.take_zero]
   repeat(any_goals(first|go_big_quiet_step (first|exact CO _ _|exact T _ _|exact CL _ _ _ _ (by first|exact Or.inl ⟨rfl,rfl⟩|exact Or.inr ⟨rfl,rfl⟩))|quiet_step (first|exact CO _ _|exact T _ _|exact CL _ _ _ _ (by first|exact Or.inl ⟨rfl,rfl⟩|exact Or.inr ⟨rfl,rfl⟩))))
   refine wpQuiet_nil ?_
   intro w8 af
   obtain⟨⟨dq,D⟩,rfl⟩:=af
   have y:=below_regrown B dq D
   clear r5 ra rN r6 r7 r8 r9 ap ar am aq CO T CL ay
   generalize Sort.grow (redrawn B dq) D=W8 at*
   have aB:=y.size
   have ad:=al.out
   obtain⟨J,F,K,I⟩:=ai.out
   have g0:=cK y (by omega) J
   have g1:=cK y (by omega) F
   have g2:=cK y (by omega) K
   have ao:=Hk (cK y (by omega) I)
   have aw:wc.heap.size+1<W8.heap.size:=by omega
   have U:=Hk (Qaa O.out y)
   clear J F K I y ad
   go_wp2_with (first|(go_at_call 20;refine(QaD false false true (2) rfl _ _ (by simp) (by simp) (by simp)).mono ?_;rintro e w6 ⟨rfl,z⟩;subst z)|(go_at_fn 20;refine(QaD false false true (2) rfl _ _ (by simp) (by simp) (by simp)).mono ?_;rintro e w6 ⟨rfl,z⟩;subst z))
   go_quiet (fail)
   go_wp2
   go_ret2
   exact⟨Or.inl ⟨by rw[HV.out];decide,by rw[HV.out];rfl⟩,below_drewN (Qad U.out _) _⟩
theorem QhE (hb ho a8 b o n c oc:Nat) (oa:Option Addr) (cs:List Cl) (ss:List ByteArray) (j:Jb) (w:World) (a7:hb<w.heap.size) (h0:w.cell? ⟨hb,ho,none⟩=some (.slice (some ⟨b,o,none⟩) n c)) (aJ:QaX w j.cols ss) (bx:ss.length<=100) (hn:cs.length=n) (bW:1<=n) (b7:n<=40) (ce:n<=c) (aj:b<w.heap.size) (hc:Qas w b o cs) (hsz:∀x∈cs,x.1.size<=maxLen) (am:j.code=2) (hj:j.outs=.slice oa 1 oc) (hE:Env w) (bN:j.op.size<=1000000) (br:j.left.2.2.2.size<=maxLen) (bq:j.right.2.2.2.size<=maxLen) (bA:ss.length=1) (bH:inS QaF j.op.data.toList=false):
 Calls Tryz.prog 9 #[.agg j.cells,.slice (some ⟨hb,ho,none⟩) 1 a8] w fun e w'=>QaO e w' w.heap.size 1 [cs]/\Below w.heap.size w w':=by
 have b8:=mkF
 obtain⟨sv,ap⟩:∃q,j.cols=q:=⟨_,rfl⟩
 obtain⟨sa,sc,rfl,bZ,bX,ar⟩:=ap▸aJ
 have bG:=Hk ap
 have az:=Hk (fun V (h:Below w.heap.size w V)=>Qcl b o n c cs j.left V hn (by omega) (by have:=h.size;omega) (hc.below h aj) br)
 have ax:=Hk (fun V (h:Below w.heap.size w V)=>Qcl b o n c cs j.right V hn (by omega) (by have:=h.size;omega) (hc.below h aj) bq)
 have aA:=Hk (fun V (h:Below w.heap.size w V)=>QcZ j.op V (hE.below h) bN)
 have cc:((ss.length:Int) != 1)=false:=by simp;omega
 clear bA
 rw[bH] at aA
 have ca:=Hk (show QdH cs ss 0=match ss[0]? with |some s=>Qaq cs s.data.toList|none=>-1 from rfl)
 have HX:=Hk (Ai hn (Ai hc (Ai hsz (Ai h0 aJ))))
 refine Qa6 hb ho 1 a8 1 ss.length sc oc n c oa sa (some ⟨b,o,none⟩) j w a7 h0 (by rw[am];rfl) (by decide) hj ap _ ?_
 iterate 226 intro _
 intro A N wc K
 clear aJ h0 hn hc hsz ar
 have HW:=Hk K.bel
 have b5:=K.big
 have I:w.heap.size<wc.heap.size:=by omega
 have cf:hb<wc.heap.size:=by omega
 have a0:=K.a0
 have m0:=K.m0
 have bO:=K.Al
 have bP:=K.Nl
 have b6:=K.A0
 have cb:=K.N0
 have F:=Hk (show∀k v,(#[.int .i64 j.at_,.int .i64 2,.slice oa 1 oc,j.ins,.slice sa ss.length sc,.string j.op,.string j.left.1,.int .i64 j.left.2.1,.int .i64 j.left.2.2.1,.string j.left.2.2.2,.string j.right.1,.int .i64 j.right.2.1,.int .i64 j.right.2.2.1,.string j.right.2.2.2,.int .i64 j.retry]:Array Value)[k]? =some v->wc.cell? ⟨w.heap.size,k,none⟩=some v from fun k v hk=>K.job k v (by unfold Jb.cells;rw[hj,am,ap];exact hk))
 have f0:=cK HW.out a7 HX.out.2.2.2.1
 clear K
 conv=>arg 2;whnf
 have j1:wc.cell? ⟨w.heap.size,1,none⟩=some (.int .i64 2):=F.out 1 _ rfl
 have cd:=Hk (show∀V,Below w.heap.size w V->Qav V (.slice (some ⟨b,o,none⟩) n c) cs from fun V h=>⟨some ⟨b,o,none⟩,c,by rw[HX.out.1],by have:=HX.out.1;omega,HX.out.2.2.1,Or.inr ⟨b,o,rfl,by have:=h.size;omega,HX.out.2.1.below h aj⟩⟩)
 have q4:wc.cell? ⟨w.heap.size,4,none⟩=some (.slice sa ss.length sc):=F.out 4 _ rfl
 have q5:wc.cell? ⟨w.heap.size,5,none⟩=some (.string j.op):=F.out 5 _ rfl
 have q6:wc.cell? ⟨w.heap.size,6,none⟩=some (.string j.left.1):=F.out 6 _ rfl
 have q7:wc.cell? ⟨w.heap.size,7,none⟩=some (.int .i64 j.left.2.1):=F.out 7 _ rfl
 have q8:wc.cell? ⟨w.heap.size,8,none⟩=some (.int .i64 j.left.2.2.1):=F.out 8 _ rfl
 have q9:wc.cell? ⟨w.heap.size,9,none⟩=some (.string j.left.2.2.2):=F.out 9 _ rfl
 have bd:wc.cell? ⟨w.heap.size,10,none⟩=some (.string j.right.1):=F.out 10 _ rfl
 have aX:wc.cell? ⟨w.heap.size,11,none⟩=some (.int .i64 j.right.2.1):=F.out 11 _ rfl
 have a4:wc.cell? ⟨w.heap.size,12,none⟩=some (.int .i64 j.right.2.2.1):=F.out 12 _ rfl
 have a9:wc.cell? ⟨w.heap.size,13,none⟩=some (.string j.right.2.2.2):=F.out 13 _ rfl
 have ar:QaX w (.slice sa ss.length sc) ss:=bG.out▸HX.out.2.2.2.2
 go_upto_region 21 with fail
 obtain⟨B,aa⟩:∃q,q=(wc.alloc (.cells #[.slice (some ⟨b,o,none⟩) n c] 33)).alloc (.cells #[.int .i64 1,.int .i64 7,.int .i64 13] 40):=⟨_,rfl⟩
 rw[<-aa]
 have T:B.cell? ⟨wc.heap.size+1,0,none⟩=some (.int .i64 1):=by rw[aa,show wc.heap.size+1=(wc.alloc (.cells #[.slice (some ⟨b,o,none⟩) n c] 33)).heap.size by simp];simp
 have M:B.cell? ⟨wc.heap.size+1,1,none⟩=some (.int .i64 7):=by rw[aa,show wc.heap.size+1=(wc.alloc (.cells #[.slice (some ⟨b,o,none⟩) n c] 33)).heap.size by simp];simp
 have U:B.cell? ⟨wc.heap.size+1,2,none⟩=some (.int .i64 13):=by rw[aa,show wc.heap.size+1=(wc.alloc (.cells #[.slice (some ⟨b,o,none⟩) n c] 33)).heap.size by simp];simp
 have O:B.cell? ⟨wc.heap.size,0,none⟩=some (.slice (some ⟨b,o,none⟩) n c):=by rw[aa,World.cell?_alloc_past _ _ _ (by simp)];simp
 have bc:B.heap.size=wc.heap.size+2:=by rw[aa];simp
 have D:Below wc.heap.size wc B:=by rw[aa];exact Qad (Qab _ _) _
 clear aa
 have J:=Hk (Qaa HW.out D)
 have ai:=Hk (Ai T (Ai M (Ai U O)))
 have z4:=cK D I q4
 have z5:=cK D I q5
 have z6:=cK D I q6
 have z7:=cK D I q7
 have z8:=cK D I q8
 have z9:=cK D I q9
 have a6:=cK D I bd
 have ba:=cK D I aX
 have a5:=cK D I a4
 have aY:=cK D I a9
 have za:=cK D bO a0
 have zN:=cK D bP m0
 have aZ:=Hk (show∀V,Below B.heap.size B V->Calls Tryz.prog 18 #[.int .i64 0,.pointer (some ⟨N,0,none⟩),.pointer (some ⟨A,0,none⟩),.pointer (some ⟨w.heap.size,0,none⟩)] V fun e w'=>e=.returned (.int .i64 (QdH cs ss 0))/\Below V.heap.size V w' from fun V h=>QdR N A w.heap.size b o n c ss.length (.slice sa ss.length sc) cs ss 0 V (cK h (unb zN) zN) (cK h (unb za) za) (cK h (unb z4) z4) (ar.below (Qaa J.out h)) rfl bx (by decide) HX.out.1 (by omega) (by have:=(Qaa J.out h).size;omega) (HX.out.2.1.below (Qaa J.out h) aj))
 have r5:=cell_regrown z5
 have ra:=cell_regrown za
 have rN:=cell_regrown zN
 have r6:=cell_regrown z6
 have r7:=cell_regrown z7
 have r8:=cell_regrown z8
 have r9:=cell_regrown z9
 have aq:=cell_regrown a6
 have av:=cell_regrown ba
 have ao:=cell_regrown a5
 have au:=cell_regrown aY
 have CO:=fun d os=>Calls.regrown_of ((aA.out (Sort.grow (redrawn B d) os) (Qaa J.out (below_regrown B d os))).mono fun e w' ⟨h1,h2⟩=>⟨h1,h2▸Below.refl _ _⟩)
 have Z:=fun d os=>Calls.regrown_of (aZ.out (Sort.grow (redrawn B d) os) (below_regrown B d os))
 have bB:=Hk (fun i (hi:i<cs.length)=>cell_regrown ((J.out.cell (p:=⟨b,o+i*2+1,none⟩) aj).trans (HX.out.2.1 i hi).2))
 clear T M U O D q4 q5 q6 q7 q8 q9 bd aX a4 a9 a0 m0 f0 z4 z5 z6 z7 z8 z9 a6 ba a5 aY za zN ar aA
 have al:=Hk bc
 clear bc
 obtain⟨PI,aB⟩:∃q,QdH cs ss 0=q:=⟨_,rfl⟩
 rw[aB] at Z
 have bI:=Hk aB
 clear aB aZ
 obtain⟨kl,aE⟩:∃q,QaI cs j.left=q:=⟨_,rfl⟩
 obtain⟨kr,aH⟩:∃q,QaI cs j.right=q:=⟨_,rfl⟩
 rw[aE] at az
 rw[aH] at ax
 have bb:∀(X:Value) (k:Int) (V:World),Below w.heap.size w V->(X=aggA j.left/\k=kl\/X=aggA j.right/\k=kr)->Calls Tryz.prog 22 #[X,.slice (some ⟨b,o,none⟩) n c] V fun e w'=>e=.returned (.int .i64 k)/\Below V.heap.size V w':=by
  rintro X k V hV (⟨rfl,rfl⟩|⟨rfl,rfl⟩)
  ·exact az.out V hV
  ·exact ax.out V hV
 have CL:=fun X k d os h=>Calls.regrown_of (bb X k (Sort.grow (redrawn B d) os) (Qaa J.out (below_regrown B d os)) h)
 have b9:=Hk (Ai aE aH)
 clear aE aH az ax bb
 have bF:PI= -1\/∃i:Nat,PI=(i:Int)/\i<cs.length:=bI.out▸Qbo cs ss 0
 rcases bF with rfl|⟨i,rfl,bJ⟩
 ·
  refine wp_region_tail 38 (by kernel_rfl) (by kernel_rfl) rfl (Or.inl ⟨rfl,fun _=>rfl⟩) (fun _ _ _ h=>h) ?_
  simp only[List.drop_succ_cons,List.drop_zero,List.take_succ_cons,List.take_zero]
  repeat(any_goals(first|go_big_quiet_step (first|exact CO _ _|exact Z _ _|exact CL _ _ _ _ (by first|exact Or.inl ⟨rfl,rfl⟩|exact Or.inr ⟨rfl,rfl⟩))|quiet_step (first|exact CO _ _|exact Z _ _|exact CL _ _ _ _ (by first|exact Or.inl ⟨rfl,rfl⟩|exact Or.inr ⟨rfl,rfl⟩))))
  refine wpQuiet_nil ?_
  intro w8 ag
  obtain⟨⟨dq,E⟩,rfl⟩:=ag
  have y:=below_regrown B dq E
  clear r5 ra rN r6 r7 r8 r9 aq av ao au CO Z CL
  generalize Sort.grow (redrawn B dq) E=W8 at*
  have aK:=y.size
  have ad:=al.out
  obtain⟨T,M,U,O⟩:=ai.out
  have g0:=cK y (by omega) T
  have g1:=cK y (by omega) M
  have g2:=cK y (by omega) U
  have aG:=Hk (cK y (by omega) O)
  have aD:wc.heap.size+1<W8.heap.size:=by omega
  have af:=Hk (Qaa J.out y)
  clear T M U O y ad
  go_wp2_with (first|(go_at_call 20;refine(QaD true true false (0) rfl _ _ (by simp) (by simp) (by simp)).mono ?_;rintro e w6 ⟨rfl,z⟩;subst z)|(go_at_fn 20;refine(QaD true true false (0) rfl _ _ (by simp) (by simp) (by simp)).mono ?_;rintro e w6 ⟨rfl,z⟩;subst z))
  go_quiet (fail)
  go_wp2
  go_ret2
  exact⟨Or.inl ⟨by decide,rfl⟩,below_drewN (Qad af.out _) _⟩
 ·have aI:=bB.out i bJ
  have bY:(i:Int)<(n:Int):=by have:=HX.out.1;omega
  have b4:(0:Int)<=(i:Int):=by omega
  have bV:max (i:Int) 0=(i:Int):=by omega
  have bR:max 0 (i:Int)=(i:Int):=by omega
  generalize cs[i].2=kx at*
  cases k1:(kx != 1)
  ·cases k2:(kl != 1)
   ·
    refine wp_region_tail 38 (by kernel_rfl) (by kernel_rfl) rfl (Or.inl ⟨rfl,fun _=>rfl⟩) (fun _ _ _ h=>h) ?_
    simp only[List.drop_succ_cons,List.drop_zero,List.take_succ_cons,List.take_zero]
    repeat(any_goals(first|go_big_quiet_step (first|exact CO _ _|exact Z _ _|exact CL _ _ _ _ (by first|exact Or.inl ⟨rfl,rfl⟩|exact Or.inr ⟨rfl,rfl⟩))|quiet_step (first|exact CO _ _|exact Z _ _|exact CL _ _ _ _ (by first|exact Or.inl ⟨rfl,rfl⟩|exact Or.inr ⟨rfl,rfl⟩))))
    refine wpQuiet_nil ?_
    intro w8 ag
    obtain⟨⟨dq,E⟩,rfl⟩:=ag
    have y:=below_regrown B dq E
    clear r5 ra rN r6 r7 r8 r9 aq av ao au CO Z CL aI
    generalize Sort.grow (redrawn B dq) E=W8 at*
    have aK:=y.size
    have ad:=al.out
    obtain⟨T,M,U,O⟩:=ai.out
    have g0:=cK y (by omega) T
    have g1:=cK y (by omega) M
    have g2:=cK y (by omega) U
    have aG:=Hk (cK y (by omega) O)
    have aD:wc.heap.size+1<W8.heap.size:=by omega
    have af:=Hk (Qaa J.out y)
    clear T M U O y ad
    go_wp2_with (first|(go_at_call 20;refine(QaD true false (kr != 1) (0) (QfQ _ _) _ _ (by simp) (by simp) (by simp)).mono ?_;rintro e w6 ⟨rfl,z⟩;subst z)|(go_at_fn 20;refine(QaD true false (kr != 1) (0) (QfQ _ _) _ _ (by simp) (by simp) (by simp)).mono ?_;rintro e w6 ⟨rfl,z⟩;subst z))
    go_quiet (fail)
    go_wp2
    go_ret2
    exact⟨Or.inl ⟨by decide,rfl⟩,below_drewN (Qad af.out _) _⟩
   ·
    refine wp_region_tail 38 (by kernel_rfl) (by kernel_rfl) rfl (Or.inl ⟨rfl,fun _=>rfl⟩) (fun _ _ _ h=>h) ?_
    simp only[List.drop_succ_cons,List.drop_zero,List.take_succ_cons,List.take_zero]
    repeat(any_goals(first|go_big_quiet_step (first|exact CO _ _|exact Z _ _|exact CL _ _ _ _ (by first|exact Or.inl ⟨rfl,rfl⟩|exact Or.inr ⟨rfl,rfl⟩))|quiet_step (first|exact CO _ _|exact Z _ _|exact CL _ _ _ _ (by first|exact Or.inl ⟨rfl,rfl⟩|exact Or.inr ⟨rfl,rfl⟩))))
    refine wpQuiet_nil ?_
    intro w8 ag
    obtain⟨⟨dq,E⟩,rfl⟩:=ag
    have y:=below_regrown B dq E
    clear r5 ra rN r6 r7 r8 r9 aq av ao au CO Z CL aI
    generalize Sort.grow (redrawn B dq) E=W8 at*
    have aK:=y.size
    have ad:=al.out
    obtain⟨T,M,U,O⟩:=ai.out
    have g0:=cK y (by omega) T
    have g1:=cK y (by omega) M
    have g2:=cK y (by omega) U
    have aG:=Hk (cK y (by omega) O)
    have aD:wc.heap.size+1<W8.heap.size:=by omega
    have af:=Hk (Qaa J.out y)
    clear T M U O y ad
    go_wp2_with (first|(go_at_call 20;refine(QaD true false true (0) rfl _ _ (by simp) (by simp) (by simp)).mono ?_;rintro e w6 ⟨rfl,z⟩;subst z)|(go_at_fn 20;refine(QaD true false true (0) rfl _ _ (by simp) (by simp) (by simp)).mono ?_;rintro e w6 ⟨rfl,z⟩;subst z))
    go_quiet (fail)
    go_wp2
    go_ret2
    exact⟨Or.inl ⟨by decide,rfl⟩,below_drewN (Qad af.out _) _⟩
  ·
   refine wp_region_tail 38 (by kernel_rfl) (by kernel_rfl) rfl (Or.inl ⟨rfl,fun _=>rfl⟩) (fun _ _ _ h=>h) ?_
   simp only[List.drop_succ_cons,List.drop_zero,List.take_succ_cons,List.take_zero]
   repeat(any_goals(first|go_big_quiet_step (first|exact CO _ _|exact Z _ _|exact CL _ _ _ _ (by first|exact Or.inl ⟨rfl,rfl⟩|exact Or.inr ⟨rfl,rfl⟩))|quiet_step (first|exact CO _ _|exact Z _ _|exact CL _ _ _ _ (by first|exact Or.inl ⟨rfl,rfl⟩|exact Or.inr ⟨rfl,rfl⟩))))
   refine wpQuiet_nil ?_
   intro w8 ag
   obtain⟨⟨dq,E⟩,rfl⟩:=ag
   have y:=below_regrown B dq E
   clear r5 ra rN r6 r7 r8 r9 aq av ao au CO Z CL aI
   generalize Sort.grow (redrawn B dq) E=W8 at*
   have aK:=y.size
   have ad:=al.out
   obtain⟨T,M,U,O⟩:=ai.out
   have g0:=cK y (by omega) T
   have g1:=cK y (by omega) M
   have g2:=cK y (by omega) U
   have aG:=Hk (cK y (by omega) O)
   have aD:wc.heap.size+1<W8.heap.size:=by omega
   have af:=Hk (Qaa J.out y)
   clear T M U O y ad
   go_wp2_with (first|(go_at_call 20;refine(QaD true false true (0) rfl _ _ (by simp) (by simp) (by simp)).mono ?_;rintro e w6 ⟨rfl,z⟩;subst z)|(go_at_fn 20;refine(QaD true false true (0) rfl _ _ (by simp) (by simp) (by simp)).mono ?_;rintro e w6 ⟨rfl,z⟩;subst z))
   go_quiet (fail)
   go_wp2
   go_ret2
   exact⟨Or.inl ⟨by decide,rfl⟩,below_drewN (Qad af.out _) _⟩
def Qia (ts:List Tb):Prop:=∀t∈ts,t.1.length<=100/\∀x∈t.1,x.1.size<=1000
theorem QlI (J F tcap:Nat) (ts:List Tb) (j:Jb) (w:World) (T:Qa0 w J F ts) (Z:J<w.heap.size) (hl:ts.length<=100) (U:Qia ts) (K:∃t∈ts,Qan t.1 t.2=false):
 Calls Tryz.prog 13 #[.agg j.cells,.slice (some ⟨J,F,none⟩) ts.length tcap] w fun e w'=>e=.returned (.tuple #[.slice none 0 0,.int .i64 1])/\Below w.heap.size w w':=by
 obtain⟨i0,hi,am,ag,ao⟩:=info_parts Tryz.infoCols
 have HB:=Hk K
 have HT:=Hk T
 have aa:=Hk U
 clear U
 clear K T
 unfold Jb.cells
 go_enter Tryz.func13,Tryz.ntmps13
 go_wp2
 go_loopw [6,38] (fun l i wr=>∃(k:Nat) (us:List Value),k<=ts.length/\i=.int .i64 k/\wr.ownsRow (w.heap.size+1) 33 1 l k us/\(∀q (h:q<ts.length),q<k->Qan ts[q].1 ts[q].2=true)/\Below w.heap.size w wr) (fun _ i _=>ts.length-(intOf i).toNat)
 case atStart=>exact⟨0,[],Nat.zero_le _,rfl,World.ownsRow_nil _ _ _ _,fun q _ h=>absurd h (by omega),Qab _ _⟩
 case round=>
  obtain⟨k,us,hk,rfl,B,A,o⟩:=hrel
  obtain⟨la,lc,rfl⟩:=Qae B
  have aG:=o.size
  have O:=Hk (Ai B (Ai A o))
  by_cases hlt:k<ts.length
  ·obtain⟨vc,vr,c0,c1,hc,hr⟩:=HT.out k hlt
   have d0:=cK o Z c0
   have d1:=cK o Z c1
   have z:=fun W (hW:Below wr.heap.size wr W)=>QdQ vc vr ts[k].1 ts[k].2 W ((hc.below o).below hW) ((hr.below o).below hW) (aa.out _ (List.getElem_mem hlt)).1 (aa.out _ (List.getElem_mem hlt)).2
   obtain⟨ca,cc,rfl,-⟩:=hc
   obtain⟨ra,rc,rfl,-⟩:=hr
   cases g:Qan ts[k].1 ts[k].2
   ·simp only[g] at z
    have M:=Hk z
    clear z c0 c1 B A o g
    go_wp2_with (go_at_call 30;refine(M.out _ (Qab _ _)).mono ?_;rintro e w1 ⟨rfl,y⟩)
    go_ret2
    exact⟨rfl,Qaa (Qad O.out.2.2 _) y⟩
   ·simp only[g] at z
    have M:=Hk z
    have HG:=Hk g
    clear z c0 c1 B A o g
    generalize ac:ts[k].1.length=n1 at*
    generalize ae:ts[k].2.length=n2 at*
    clear ac ae
    go_wp2_with (first|(go_at_call 30;refine(M.out _ (Qab _ _)).mono ?_;rintro e w1 ⟨rfl,y⟩;obtain⟨ak,af⟩:=QbM y;have aC:wr.heap.size<w1.heap.size:=by(have:=y.size;simp at this;omega))|(at_builtin;refine wpList_append_own _ rfl _ _ 31 rfl (w.heap.size+1) 33 i0 (.slice none 0 0) 1 24 Tryz.underlying31 hi am ag ao rfl (by decide) _ _ _ rfl ((Qaf (O.out.1.alloc _) y).alloc _) ⟨w1.heap.size,0,none⟩ 1 1 [.slice ca n1 cc] rfl rfl (QbG _ _ _ _ rfl) (QbZ _ _ _) ?c3 ?c4 ?c5 ?_))
    case c3=>unfold maxLen;omega
    case c4=>omega
    case c5=>have:=y.size;simp at this⊢;omega
    intro v' w5 E D _
    obtain⟨p1,p2,p3⟩:=O.out
    have I:Below w.heap.size w w5:=((Qaa (Qad p3 _) y).alloc (by omega) _).grown D (by simp;omega) (fun q N=>by have:=(p1.lt q N).1;omega)
    have HF:=Hk (Ai E I)
    clear E D I ak af p1 p2 p3
    go_wp2
    go_roundw
    case rel=>
     refine⟨k+1,_,by omega,by go_num,HF.out.1,fun q h N=>?_,HF.out.2⟩
     rcases Nat.lt_or_ge q k with V|V
     ·exact O.out.2.1 q h V
     ·obtain rfl:q=k:=by omega
      exact HG.out
    case measure=>simp[intOf];omega
  ·exfalso
   obtain⟨t,T,hf⟩:=HB.out
   obtain⟨q,N,rfl⟩:=List.mem_iff_getElem.1 T
   have:=A q N (by omega)
   rw[this] at hf
   cases hf
theorem QlJ (tb N tcap:Nat) (ts:List Tb) (j:Jb) (w:World) (ht:Qa0 w tb N ts) (ad:tb<w.heap.size) (hl:ts.length<=100) (af:Qia ts) (aD:0<ts.length) (I:∀t∈ts,Qan t.1 t.2=true)
 (n:Int) (hn:n≠0)
 (E:∀W B g U us,Below w.heap.size w W->W.ownsRow B 33 1 (.slice (some ⟨g,0,none⟩) ts.length U) ts.length us->QaA W us (ts.map (·.1))->Calls Tryz.prog 9 #[.agg j.cells,.slice (some ⟨g,0,none⟩) ts.length U] W fun e w'=>e=.returned (.tuple #[.slice none 0 0,.int .i64 n])/\Below W.heap.size W w'):
 Calls Tryz.prog 13 #[.agg j.cells,.slice (some ⟨tb,N,none⟩) ts.length tcap] w fun e w'=>e=.returned (.tuple #[.slice none 0 0,.int .i64 n])/\Below w.heap.size w w':=by
 obtain⟨i0,hi,aK,ao,ar⟩:=info_parts Tryz.infoCols
 have HG:=Hk I
 have HT:=Hk ht
 have ah:=Hk af
 clear af
 unfold Jb.cells at E
 have K:=Hk E
 clear E
 clear I ht
 have Z:=Qbd w j 28
 unfold Jb.cells at Z⊢
 have ag:=Hk Z
 clear Z
 go_enter Tryz.func13,Tryz.ntmps13
 go_wp2
 refine QbH (G:=fun w=>Code.wp _ _ _ _ w) (fun A=>Qaz A w.heap.size j/\Below w.heap.size w A/\w.heap.size<A.heap.size) _ ⟨ag.out,Qab _ _,by simp⟩ ?_
 clear ag
 intro A ⟨h,ab,av⟩
 have HJ:=Hk (Ai h ab)
 clear h ab
 go_loopw [6,38] (fun l i wr=>∃(k:Nat) (us:List Value),k<=ts.length/\i=.int .i64 k/\wr.ownsRow A.heap.size 33 1 l k us/\QaA w us ((ts.take k).map (·.1))/\Below A.heap.size A wr) (fun _ i _=>ts.length-(intOf i).toNat)
 case atStart=>exact⟨0,[],Nat.zero_le _,rfl,World.ownsRow_nil _ _ _ _,⟨rfl,fun j hj=>absurd hj (by simp)⟩,Below.refl _ _⟩
 case round=>
  obtain⟨k,us,hk,rfl,z,o,D⟩:=hrel
  obtain⟨la,lc,rfl⟩:=Qae z
  have y:Below w.heap.size w wr:=HJ.out.2.trans (D.mono HJ.out.2.size)
  have a7:=D.size
  have HO:=Hk (Ai z (Ai o (Ai D y)))
  by_cases hlt:k<ts.length
  ·obtain⟨vc,vr,c0,c1,hc,hr⟩:=HT.out k hlt
   have d0:=cK y ad c0
   have d1:=cK y ad c1
   have O:=fun W (hW:Below wr.heap.size wr W)=>QdQ vc vr ts[k].1 ts[k].2 W ((hc.below y).below hW) ((hr.below y).below hW) (ah.out _ (List.getElem_mem hlt)).1 (ah.out _ (List.getElem_mem hlt)).2
   have aA:=Hk hc
   obtain⟨ca,cc,rfl,-⟩:=hc
   obtain⟨ra,rc,rfl,-⟩:=hr
   have g:=HG.out _ (List.getElem_mem hlt)
   simp only[g] at O
   have aq:=Hk O
   clear O c0 c1 z o y D g
   have V:(ts.take (k+1)).map (·.1)=(ts.take k).map (·.1)++[ts[k].1]:=by rw[List.take_succ_eq_append_getElem hlt,List.map_append];rfl
   have HM:=Hk V
   clear V
   generalize ay:ts[k].1=q1 at*
   clear ay
   generalize am:ts[k].2.length=n2 at*
   clear am
   go_wp2_with (first|(go_at_call 30;refine(aq.out _ (Qab _ _)).mono ?_;rintro e w1 ⟨rfl,F⟩;obtain⟨aC,ax⟩:=QbM F;have aU:wr.heap.size<w1.heap.size:=by(have:=F.size;simp at this;omega))|(at_builtin;refine wpList_append_own _ rfl _ _ 31 rfl A.heap.size 33 i0 (.slice none 0 0) 1 24 Tryz.underlying31 hi aK ao ar rfl (by decide) _ _ _ rfl ((Qaf (HO.out.1.alloc _) F).alloc _) ⟨w1.heap.size,0,none⟩ 1 1 [.slice ca q1.length cc] rfl rfl (QbG _ _ _ _ rfl) (QbZ _ _ _) ?c3 ?c4 ?c5 ?_))
   case c3=>unfold maxLen;omega
   case c4=>omega
   case c5=>have:=F.size;simp at this⊢;omega
   intro v' w5 J M _
   obtain⟨p1,p2,p3,p4⟩:=HO.out
   have T:Below A.heap.size A w5:=((Qaa (Qad p3 _) F).alloc (by omega) _).grown M (by simp;omega) (fun q hq=>(p1.lt q hq).1)
   have ac:QaA w (us++[.slice ca q1.length cc]) ((ts.take (k+1)).map (·.1)):=by
    rw[HM.out]
    exact p2.snoc aA.out
   have HF:=Hk (Ai J (Ai ac T))
   clear J M T aC ax p1 p2 p3 p4 ac
   go_wp2
   go_roundw
   case rel=>exact⟨k+1,_,by omega,by go_num,HF.out.1,HF.out.2.1,HF.out.2.2⟩
   case measure=>simp[intOf];omega
  ·have au:k=ts.length:=by omega
   subst au
   simp only[List.take_length] at o
   obtain⟨g,U,ae,aZ⟩:=Qci (css:=ts.map (·.1)) (by simpa using z) (by simpa using aD)
   simp only[List.length_map,Value.slice.injEq,true_and] at ae
   obtain⟨rfl,rfl⟩:=ae
   have HC:=Hk (K.out wr A.heap.size g lc us y z (o.below y))
   have h:=HJ.out.1.below D av
   have j0:wr.cell? ⟨w.heap.size,0,none⟩=some (.int .i64 j.at_):=h 0 _ rfl
   have j1:wr.cell? ⟨w.heap.size,1,none⟩=some (.int .i64 j.code):=h 1 _ rfl
   have j2:wr.cell? ⟨w.heap.size,2,none⟩=some j.outs:=h 2 _ rfl
   have j3:wr.cell? ⟨w.heap.size,3,none⟩=some j.ins:=h 3 _ rfl
   have j4:wr.cell? ⟨w.heap.size,4,none⟩=some j.cols:=h 4 _ rfl
   have j5:wr.cell? ⟨w.heap.size,5,none⟩=some (.string j.op):=h 5 _ rfl
   have j6:wr.cell? ⟨w.heap.size,6,none⟩=some (.string j.left.1):=h 6 _ rfl
   have j7:wr.cell? ⟨w.heap.size,7,none⟩=some (.int .i64 j.left.2.1):=h 7 _ rfl
   have j8:wr.cell? ⟨w.heap.size,8,none⟩=some (.int .i64 j.left.2.2.1):=h 8 _ rfl
   have j9:wr.cell? ⟨w.heap.size,9,none⟩=some (.string j.left.2.2.2):=h 9 _ rfl
   have a6:wr.cell? ⟨w.heap.size,10,none⟩=some (.string j.right.1):=h 10 _ rfl
   have aY:wr.cell? ⟨w.heap.size,11,none⟩=some (.int .i64 j.right.2.1):=h 11 _ rfl
   have a9:wr.cell? ⟨w.heap.size,12,none⟩=some (.int .i64 j.right.2.2.1):=h 12 _ rfl
   have a5:wr.cell? ⟨w.heap.size,13,none⟩=some (.string j.right.2.2.2):=h 13 _ rfl
   have a4:wr.cell? ⟨w.heap.size,14,none⟩=some (.int .i64 j.retry):=h 14 _ rfl
   have a8:=Hk h
   have ba:=h.lt
   clear h z o y D K
   go_wp2_with (go_at_call 9;refine HC.out.mono ?_;rintro e w2 ⟨rfl,az⟩)
   go_ret2
   exact⟨rfl,Qaa HO.out.2.2.2 az⟩
end Go.Proofs.YtofidnijfnhpaaaGreatDoor
