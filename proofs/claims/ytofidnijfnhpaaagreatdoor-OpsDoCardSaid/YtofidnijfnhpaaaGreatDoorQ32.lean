import Derived.Test.YtofidnijfnhpaaaGreatDoorQ01
import Derived.Test.YtofidnijfnhpaaaGreatDoorQ31
set_option linter.unusedSimpArgs false
set_option linter.unusedVariables false
set_option linter.unusedSectionVars false
set_option maxRecDepth 1000000
set_option maxHeartbeats 16000000
namespace Go.Proofs.YtofidnijfnhpaaaGreatDoor
open Go.RowKit
theorem QaO.lower {e:Ending} {o:World} {B j:Nat} {no:Int} {css:List (List Cl)} (h:QaO e o B no css) (D:j<=B):QaO e o j no css:=by
 rcases h with h|⟨q,g,c,he,A,y,z⟩
 ·exact Or.inl h
 ·exact Or.inr ⟨q,g,c,he,by omega,y,z⟩
theorem QiN (B I J b o n c U:Nat) (M:Option Addr) (cs:List Cl) (ss:List ByteArray) (j:Jb) (w:World) (K:B<w.heap.size) (O:w.cell? ⟨B,I,none⟩=some (.slice (some ⟨b,o,none⟩) n c)) (F:QaX w j.cols ss) (ao:ss.length<=100) (hn:cs.length=n) (ak:1<=n) (ar:n<=40) (au:n<=c) (af:b<w.heap.size) (hc:Qas w b o cs) (hsz:∀x∈cs,x.1.size<=maxLen) (z:j.code=6) (hj:j.outs=.slice M 1 U):
 Calls Tryz.prog 9 #[.agg j.cells,.slice (some ⟨B,I,none⟩) 1 J] w fun e w'=>QaO e w' w.heap.size 0 [cs]/\Below w.heap.size w w':=by
 have ay:=mkF
 obtain⟨sv,D⟩:∃q,j.cols=q:=⟨_,rfl⟩
 obtain⟨sa,Z,rfl,av,am,ab⟩:=D▸F
 have E:=Hk (Ai hn (Ai hc (Ai hsz (Ai O F))))
 refine Qa6 B I 1 J 1 ss.length Z U n c M sa (some ⟨b,o,none⟩) j w K O (by rw[z];rfl) (by decide) hj D _ ?_
 iterate 226 intro _
 intro A N wc y
 clear F O hn hc hsz ab
 have T:=Hk y.bel
 have az:=y.big
 have al:w.heap.size<wc.heap.size:=by omega
 have aw:B<wc.heap.size:=by omega
 have a0:=y.a0
 have m0:=y.m0
 have ap:=y.Al
 have ax:=y.Nl
 have aj:=y.A0
 have aq:=y.N0
 have ac:=Hk (show∀k v,(#[.int .i64 j.at_,.int .i64 6,.slice M 1 U,j.ins,.slice sa ss.length Z,.string j.op,.string j.left.1,.int .i64 j.left.2.1,.int .i64 j.left.2.2.1,.string j.left.2.2.2,.string j.right.1,.int .i64 j.right.2.1,.int .i64 j.right.2.2.1,.string j.right.2.2.2,.int .i64 j.retry]:Array Value)[k]? =some v->wc.cell? ⟨w.heap.size,k,none⟩=some v from fun k v hk=>y.job k v (by unfold Jb.cells;rw[hj,z,D];exact hk))
 have f0:=cK T.out K E.out.2.2.2.1
 clear y
 conv=>arg 2;whnf
 have j1:wc.cell? ⟨w.heap.size,1,none⟩=some (.int .i64 6):=ac.out 1 _ rfl
 have ae:=Hk (show∀V,Below w.heap.size w V->Qav V (.slice (some ⟨b,o,none⟩) n c) cs from fun V h=>⟨some ⟨b,o,none⟩,c,by rw[E.out.1],by have:=E.out.1;omega,E.out.2.2.1,Or.inr ⟨b,o,rfl,by have:=h.size;omega,E.out.2.1.below h af⟩⟩)
 go_wp2
 go_ret2
 refine⟨Or.inr ⟨rfl,wc.heap.size,1,rfl,by omega,by simp,?_⟩,Qad T.out _⟩
 intro i hi
 obtain rfl:i=0:=by simp at hi;omega
 exact⟨.slice (some ⟨b,o,none⟩) n c,by simp,ae.out _ (Qad T.out _)⟩
theorem Qhw (I M O b o n c K:Nat) (J:Option Addr) (cs:List Cl) (ss:List ByteArray) (j:Jb) (w:World) (T:I<w.heap.size) (h0:w.cell? ⟨I,M,none⟩=some (.slice (some ⟨b,o,none⟩) n c)) (E:QaX w j.cols ss) (aj:ss.length<=100) (hn:cs.length=n) (au:1<=n) (aB:n<=40) (am:n<=c) (ao:b<w.heap.size) (hc:Qas w b o cs) (hsz:∀x∈cs,x.1.size<=maxLen) (B:j.code=3) (hj:j.outs=.slice J 1 K):
 Calls Tryz.prog 9 #[.agg j.cells,.slice (some ⟨I,M,none⟩) 1 O] w fun e w'=>QaO e w' w.heap.size (QaB cs ss) [Qdh 3 cs ss]/\Below w.heap.size w w':=by
 have aJ:=mkF
 obtain⟨sv,D⟩:∃q,j.cols=q:=⟨_,rfl⟩
 obtain⟨sa,sc,rfl,aE,ax,ah⟩:=D▸E
 have F:=fun V (h:Below w.heap.size w V)=>Qfl b o n c cs ss j V (by rw[B];decide) (E.below h) hn (by omega) am (by have:=h.size;omega) (hc.below h ao) hsz aj
 unfold Jb.cells at F
 rw[hj,B,D] at F
 have ak:=Hk F
 clear F
 have HX:=Hk (Ai hn (Ai hc (Ai hsz (Ai h0 E))))
 refine Qa6 I M 1 O 1 ss.length sc K n c J sa (some ⟨b,o,none⟩) j w T h0 (by rw[B];rfl) (by decide) hj D _ ?_
 iterate 226 intro _
 intro A N wc z
 clear E h0 hn hc hsz ah
 have HW:=Hk z.bel
 have aL:=z.big
 have aw:w.heap.size<wc.heap.size:=by omega
 have aH:I<wc.heap.size:=by omega
 have a0:=z.a0
 have m0:=z.m0
 have az:=z.Al
 have aI:=z.Nl
 have ar:=z.A0
 have aA:=z.N0
 have y:=Hk (show∀k v,(#[.int .i64 j.at_,.int .i64 3,.slice J 1 K,j.ins,.slice sa ss.length sc,.string j.op,.string j.left.1,.int .i64 j.left.2.1,.int .i64 j.left.2.2.1,.string j.left.2.2.2,.string j.right.1,.int .i64 j.right.2.1,.int .i64 j.right.2.2.1,.string j.right.2.2.2,.int .i64 j.retry]:Array Value)[k]? =some v->wc.cell? ⟨w.heap.size,k,none⟩=some v from fun k v hk=>z.job k v (by unfold Jb.cells;rw[hj,B,D];exact hk))
 have f0:=cK HW.out T HX.out.2.2.2.1
 clear z
 conv=>arg 2;whnf
 have j1:wc.cell? ⟨w.heap.size,1,none⟩=some (.int .i64 3):=y.out 1 _ rfl
 have q0:wc.cell? ⟨w.heap.size,0,none⟩=some (.int .i64 j.at_):=y.out 0 _ rfl
 have q2:wc.cell? ⟨w.heap.size,2,none⟩=some (.slice J 1 K):=y.out 2 _ rfl
 have q3:wc.cell? ⟨w.heap.size,3,none⟩=some (j.ins):=y.out 3 _ rfl
 have q4:wc.cell? ⟨w.heap.size,4,none⟩=some (.slice sa ss.length sc):=y.out 4 _ rfl
 have q5:wc.cell? ⟨w.heap.size,5,none⟩=some (.string j.op):=y.out 5 _ rfl
 have q6:wc.cell? ⟨w.heap.size,6,none⟩=some (.string j.left.1):=y.out 6 _ rfl
 have q7:wc.cell? ⟨w.heap.size,7,none⟩=some (.int .i64 j.left.2.1):=y.out 7 _ rfl
 have q8:wc.cell? ⟨w.heap.size,8,none⟩=some (.int .i64 j.left.2.2.1):=y.out 8 _ rfl
 have q9:wc.cell? ⟨w.heap.size,9,none⟩=some (.string j.left.2.2.2):=y.out 9 _ rfl
 have aC:wc.cell? ⟨w.heap.size,10,none⟩=some (.string j.right.1):=y.out 10 _ rfl
 have av:wc.cell? ⟨w.heap.size,11,none⟩=some (.int .i64 j.right.2.1):=y.out 11 _ rfl
 have aD:wc.cell? ⟨w.heap.size,12,none⟩=some (.int .i64 j.right.2.2.1):=y.out 12 _ rfl
 have ay:wc.cell? ⟨w.heap.size,13,none⟩=some (.string j.right.2.2.2):=y.out 13 _ rfl
 have aK:wc.cell? ⟨w.heap.size,14,none⟩=some (.int .i64 j.retry):=y.out 14 _ rfl
 go_wp2_with (go_at_call 23;fail)
 refine(ak.out _ (Qad HW.out _)).mono ?_
 rintro e w3 ⟨hO,Z⟩
 have HR:=Hk (show QaO e w3 w.heap.size (QaB cs ss) [Qdh 3 cs ss] from(QcF.res hO).lower (by simp;omega))
 have U:=Hk (Qaa (Qad HW.out _) Z)
 clear Z
 rcases hO with ⟨aG,rfl⟩|⟨-,g,u,rfl,-⟩
 ·go_wp2
  go_ret2
  exact⟨HR.out,U.out⟩
 ·go_wp2
  go_ret2
  exact⟨HR.out,U.out⟩
theorem Qhx (I M O b o n c K:Nat) (J:Option Addr) (cs:List Cl) (ss:List ByteArray) (j:Jb) (w:World) (T:I<w.heap.size) (h0:w.cell? ⟨I,M,none⟩=some (.slice (some ⟨b,o,none⟩) n c)) (E:QaX w j.cols ss) (aj:ss.length<=100) (hn:cs.length=n) (au:1<=n) (aB:n<=40) (am:n<=c) (ao:b<w.heap.size) (hc:Qas w b o cs) (hsz:∀x∈cs,x.1.size<=maxLen) (B:j.code=4) (hj:j.outs=.slice J 1 K):
 Calls Tryz.prog 9 #[.agg j.cells,.slice (some ⟨I,M,none⟩) 1 O] w fun e w'=>QaO e w' w.heap.size (QaB cs ss) [Qdh 4 cs ss]/\Below w.heap.size w w':=by
 have aJ:=mkF
 obtain⟨sv,D⟩:∃q,j.cols=q:=⟨_,rfl⟩
 obtain⟨sa,sc,rfl,aE,ax,ah⟩:=D▸E
 have F:=fun V (h:Below w.heap.size w V)=>Qfl b o n c cs ss j V (by rw[B];decide) (E.below h) hn (by omega) am (by have:=h.size;omega) (hc.below h ao) hsz aj
 unfold Jb.cells at F
 rw[hj,B,D] at F
 have ak:=Hk F
 clear F
 have HX:=Hk (Ai hn (Ai hc (Ai hsz (Ai h0 E))))
 refine Qa6 I M 1 O 1 ss.length sc K n c J sa (some ⟨b,o,none⟩) j w T h0 (by rw[B];rfl) (by decide) hj D _ ?_
 iterate 226 intro _
 intro A N wc z
 clear E h0 hn hc hsz ah
 have HW:=Hk z.bel
 have aL:=z.big
 have aw:w.heap.size<wc.heap.size:=by omega
 have aH:I<wc.heap.size:=by omega
 have a0:=z.a0
 have m0:=z.m0
 have az:=z.Al
 have aI:=z.Nl
 have ar:=z.A0
 have aA:=z.N0
 have y:=Hk (show∀k v,(#[.int .i64 j.at_,.int .i64 4,.slice J 1 K,j.ins,.slice sa ss.length sc,.string j.op,.string j.left.1,.int .i64 j.left.2.1,.int .i64 j.left.2.2.1,.string j.left.2.2.2,.string j.right.1,.int .i64 j.right.2.1,.int .i64 j.right.2.2.1,.string j.right.2.2.2,.int .i64 j.retry]:Array Value)[k]? =some v->wc.cell? ⟨w.heap.size,k,none⟩=some v from fun k v hk=>z.job k v (by unfold Jb.cells;rw[hj,B,D];exact hk))
 have f0:=cK HW.out T HX.out.2.2.2.1
 clear z
 conv=>arg 2;whnf
 have j1:wc.cell? ⟨w.heap.size,1,none⟩=some (.int .i64 4):=y.out 1 _ rfl
 have q0:wc.cell? ⟨w.heap.size,0,none⟩=some (.int .i64 j.at_):=y.out 0 _ rfl
 have q2:wc.cell? ⟨w.heap.size,2,none⟩=some (.slice J 1 K):=y.out 2 _ rfl
 have q3:wc.cell? ⟨w.heap.size,3,none⟩=some (j.ins):=y.out 3 _ rfl
 have q4:wc.cell? ⟨w.heap.size,4,none⟩=some (.slice sa ss.length sc):=y.out 4 _ rfl
 have q5:wc.cell? ⟨w.heap.size,5,none⟩=some (.string j.op):=y.out 5 _ rfl
 have q6:wc.cell? ⟨w.heap.size,6,none⟩=some (.string j.left.1):=y.out 6 _ rfl
 have q7:wc.cell? ⟨w.heap.size,7,none⟩=some (.int .i64 j.left.2.1):=y.out 7 _ rfl
 have q8:wc.cell? ⟨w.heap.size,8,none⟩=some (.int .i64 j.left.2.2.1):=y.out 8 _ rfl
 have q9:wc.cell? ⟨w.heap.size,9,none⟩=some (.string j.left.2.2.2):=y.out 9 _ rfl
 have aC:wc.cell? ⟨w.heap.size,10,none⟩=some (.string j.right.1):=y.out 10 _ rfl
 have av:wc.cell? ⟨w.heap.size,11,none⟩=some (.int .i64 j.right.2.1):=y.out 11 _ rfl
 have aD:wc.cell? ⟨w.heap.size,12,none⟩=some (.int .i64 j.right.2.2.1):=y.out 12 _ rfl
 have ay:wc.cell? ⟨w.heap.size,13,none⟩=some (.string j.right.2.2.2):=y.out 13 _ rfl
 have aK:wc.cell? ⟨w.heap.size,14,none⟩=some (.int .i64 j.retry):=y.out 14 _ rfl
 go_wp2_with (go_at_call 23;fail)
 refine(ak.out _ (Qad HW.out _)).mono ?_
 rintro e w3 ⟨hO,Z⟩
 have HR:=Hk (show QaO e w3 w.heap.size (QaB cs ss) [Qdh 4 cs ss] from(QcF.res hO).lower (by simp;omega))
 have U:=Hk (Qaa (Qad HW.out _) Z)
 clear Z
 rcases hO with ⟨aG,rfl⟩|⟨-,g,u,rfl,-⟩
 ·go_wp2
  go_ret2
  exact⟨HR.out,U.out⟩
 ·go_wp2
  go_ret2
  exact⟨HR.out,U.out⟩
theorem QjI (V:World) (o:List Bool) (H:Nat) (q:V.heap.size=H):∀(j:Nat) (h:j<o.length),(V.alloc (.cells (o.map Value.bool).toArray 4)).cell? ⟨H,0+j,none⟩=some (.bool o[j]):=by
 subst q
 intro j h
 rw[Nat.zero_add]
 simp[h]
theorem QkM (t:Bool) (k:Int) (j:Qcm [t]=k) (V:World) (H:Nat) (h:V.heap.size=H):Calls Tryz.prog 20 #[.slice (some ⟨H,0,none⟩) 1 1] (V.alloc (.cells #[.bool t] 4)) fun e w'=>e=.returned (.int .i64 k)/\w'=V.alloc (.cells #[.bool t] 4):=j▸Qhv H 0 1 1 [t] _ rfl (by decide) (QjI V [t] H h)
theorem Qe1 (D J aa b o n c U:Nat) (O:Option Addr) (cs:List Cl) (ss:List ByteArray) (j:Jb) (w:World) (K:D<w.heap.size) (h0:w.cell? ⟨D,J,none⟩=some (.slice (some ⟨b,o,none⟩) n c)) (F:QaX w j.cols ss) (aH:ss.length<=100) (hn:cs.length=n) (aB:1<=n) (aK:n<=40) (aM:n<=c) (aN:b<w.heap.size) (hc:Qas w b o cs) (hsz:∀x∈cs,x.1.size<=maxLen) (b2 o2 Z c2:Nat) (ds:List Cl) (h1:w.cell? ⟨D,J+1,none⟩=some (.slice (some ⟨b2,o2,none⟩) Z c2)) (ad:ds.length=Z) (az:Z<=40) (ay:b2<w.heap.size) (ae:Qas w b2 o2 ds) (M:∀x∈ds,x.1.size<=maxLen) (B:j.code=7) (hj:j.outs=.slice O 1 U) (av:ss.length≠2):
 Calls Tryz.prog 9 #[.agg j.cells,.slice (some ⟨D,J,none⟩) 2 aa] w fun e w'=>QaO e w' w.heap.size 1 [[]]/\Below w.heap.size w w':=by
 have aT:=mkF
 obtain⟨sv,E⟩:∃q,j.cols=q:=⟨_,rfl⟩
 obtain⟨sa,sc,rfl,aP,aE,al⟩:=E▸F
 have I:=fun V (h:Below w.heap.size w V)=>Qhu (.slice (some ⟨b,o,none⟩) n c) (.slice (some ⟨b2,o2,none⟩) Z c2) ss j V (F.below h) av
 unfold Jb.cells at I
 rw[hj,B,E] at I
 have aq:=Hk I
 clear I
 have HX:=Hk (Ai hn (Ai hc (Ai hsz (Ai h0 (Ai F (Ai ad (Ai ae (Ai M h1))))))))
 refine Qa6 D J 2 aa 1 ss.length sc U n c O sa (some ⟨b,o,none⟩) j w K h0 (by rw[B];rfl) (by decide) hj E _ ?_
 iterate 226 intro _
 intro A N wc z
 clear F h0 hn hc hsz al ad ae M h1
 have T:=Hk z.bel
 have aV:=z.big
 have aD:w.heap.size<wc.heap.size:=by omega
 have aR:D<wc.heap.size:=by omega
 have a0:=z.a0
 have m0:=z.m0
 have aI:=z.Al
 have aS:=z.Nl
 have aA:=z.A0
 have aJ:=z.N0
 have y:=Hk (show∀k v,(#[.int .i64 j.at_,.int .i64 7,.slice O 1 U,j.ins,.slice sa ss.length sc,.string j.op,.string j.left.1,.int .i64 j.left.2.1,.int .i64 j.left.2.2.1,.string j.left.2.2.2,.string j.right.1,.int .i64 j.right.2.1,.int .i64 j.right.2.2.1,.string j.right.2.2.2,.int .i64 j.retry]:Array Value)[k]? =some v->wc.cell? ⟨w.heap.size,k,none⟩=some v from fun k v hk=>z.job k v (by unfold Jb.cells;rw[hj,B,E];exact hk))
 have f0:=cK T.out K HX.out.2.2.2.1
 clear z
 conv=>arg 2;whnf
 have j1:wc.cell? ⟨w.heap.size,1,none⟩=some (.int .i64 7):=y.out 1 _ rfl
 have f1:=cK T.out K HX.out.2.2.2.2.2.2.2.2
 have q0:wc.cell? ⟨w.heap.size,0,none⟩=some (.int .i64 j.at_):=y.out 0 _ rfl
 have q2:wc.cell? ⟨w.heap.size,2,none⟩=some (.slice O 1 U):=y.out 2 _ rfl
 have q3:wc.cell? ⟨w.heap.size,3,none⟩=some (j.ins):=y.out 3 _ rfl
 have q4:wc.cell? ⟨w.heap.size,4,none⟩=some (.slice sa ss.length sc):=y.out 4 _ rfl
 have q5:wc.cell? ⟨w.heap.size,5,none⟩=some (.string j.op):=y.out 5 _ rfl
 have q6:wc.cell? ⟨w.heap.size,6,none⟩=some (.string j.left.1):=y.out 6 _ rfl
 have q7:wc.cell? ⟨w.heap.size,7,none⟩=some (.int .i64 j.left.2.1):=y.out 7 _ rfl
 have q8:wc.cell? ⟨w.heap.size,8,none⟩=some (.int .i64 j.left.2.2.1):=y.out 8 _ rfl
 have q9:wc.cell? ⟨w.heap.size,9,none⟩=some (.string j.left.2.2.2):=y.out 9 _ rfl
 have aL:wc.cell? ⟨w.heap.size,10,none⟩=some (.string j.right.1):=y.out 10 _ rfl
 have aC:wc.cell? ⟨w.heap.size,11,none⟩=some (.int .i64 j.right.2.1):=y.out 11 _ rfl
 have aO:wc.cell? ⟨w.heap.size,12,none⟩=some (.int .i64 j.right.2.2.1):=y.out 12 _ rfl
 have aG:wc.cell? ⟨w.heap.size,13,none⟩=some (.string j.right.2.2.2):=y.out 13 _ rfl
 have aU:wc.cell? ⟨w.heap.size,14,none⟩=some (.int .i64 j.retry):=y.out 14 _ rfl
 go_wp2_with (go_at_call 25;fail)
 refine(aq.out _ (Qad T.out _)).mono ?_
 rintro e w3 ⟨hO,ac⟩
 have HR:=Hk (show QaO e w3 w.heap.size 1 [[]] from(QcF.res hO).lower (by simp;omega))
 have ab:=Hk (Qaa (Qad T.out _) ac)
 clear ac
 rcases hO with ⟨aQ,rfl⟩|⟨-,g,u,rfl,-⟩
 ·go_wp2
  go_ret2
  exact⟨HR.out,ab.out⟩
 ·go_wp2
  go_ret2
  exact⟨HR.out,ab.out⟩
theorem QiO (M U am b o n c oc:Nat) (oa:Option Addr) (cs:List Cl) (ss:List ByteArray) (j:Jb) (w:World) (ab:M<w.heap.size) (h0:w.cell? ⟨M,U,none⟩=some (.slice (some ⟨b,o,none⟩) n c)) (ad:QaX w j.cols ss) (aU:ss.length<=100) (hn:cs.length=n) (aN:1<=n) (aG:n<=40) (aY:n<=c) (aJ:b<w.heap.size) (hc:Qas w b o cs) (hsz:∀x∈cs,x.1.size<=maxLen) (b2 o2 n2 c2:Nat) (E:List Cl) (h1:w.cell? ⟨M,U+1,none⟩=some (.slice (some ⟨b2,o2,none⟩) n2 c2)) (Z:E.length=n2) (aB:n2<=40) (aw:b2<w.heap.size) (ac:Qas w b2 o2 E) (O:∀x∈E,x.1.size<=maxLen) (F:j.code=7) (hj:j.outs=.slice oa 1 oc) (x y:ByteArray) (D:ss=[x,y]) (aL:Qah cs=true):
 Calls Tryz.prog 9 #[.agg j.cells,.slice (some ⟨M,U,none⟩) 2 am] w fun e w'=>QaO e w' w.heap.size (QaQ cs E x y) [Qb0 cs E (pOf E y)]/\Below w.heap.size w w':=by
 have aV:=mkF
 obtain⟨sv,K⟩:∃q,j.cols=q:=⟨_,rfl⟩
 obtain⟨sa,sc,rfl,aR,aP,aq⟩:=K▸ad
 obtain⟨I,J,av,ar,aa⟩:∃I J,sa=some ⟨I,J,none⟩/\I<w.heap.size/\QbO w I J ss:=by
  rcases aq with h|h
  ·rw[h] at D;simp at D
  ·exact h
 have ao:w.cell? ⟨I,J,none⟩=some (.string x):=by have:=aa 0 (by rw[D];simp);simpa [D] using this
 have ak:w.cell? ⟨I,J+1,none⟩=some (.string y):=by have:=aa 1 (by rw[D];simp);simpa [D] using this
 have au:ss.length=2:=by rw[D];rfl
 have T:=fun V (h:Below w.heap.size w V)=>QiL b o n c b2 o2 n2 c2 I J sc cs E x y j V (by rw[K,av,au]) (by have:=h.size;omega) (cK h ar ao) (cK h ar ak) hn aG (by have:=h.size;omega) (hc.below h aJ) Z aB (by have:=h.size;omega) (ac.below h aw) hsz O aL
 unfold Jb.cells at T
 rw[hj,F,K] at T
 have aE:=Hk T
 clear T aa ao ak D av au
 have HX:=Hk (Ai hn (Ai hc (Ai hsz (Ai h0 (Ai ad (Ai Z (Ai ac (Ai O h1))))))))
 refine Qa6 M U 2 am 1 ss.length sc oc n c oa sa (some ⟨b,o,none⟩) j w ab h0 (by rw[F];rfl) (by decide) hj K _ ?_
 iterate 226 intro _
 intro A N wc B
 clear ad h0 hn hc hsz aq Z ac O h1
 have HW:=Hk B.bel
 have aS:=B.big
 have a5:w.heap.size<wc.heap.size:=by omega
 have a8:M<wc.heap.size:=by omega
 have a0:=B.a0
 have m0:=B.m0
 have a6:=B.Al
 have a9:=B.Nl
 have aT:=B.A0
 have aX:=B.N0
 have z:=Hk (show∀k v,(#[.int .i64 j.at_,.int .i64 7,.slice oa 1 oc,j.ins,.slice sa ss.length sc,.string j.op,.string j.left.1,.int .i64 j.left.2.1,.int .i64 j.left.2.2.1,.string j.left.2.2.2,.string j.right.1,.int .i64 j.right.2.1,.int .i64 j.right.2.2.1,.string j.right.2.2.2,.int .i64 j.retry]:Array Value)[k]? =some v->wc.cell? ⟨w.heap.size,k,none⟩=some v from fun k v hk=>B.job k v (by unfold Jb.cells;rw[hj,F,K];exact hk))
 have f0:=cK HW.out ab HX.out.2.2.2.1
 clear B
 conv=>arg 2;whnf
 have j1:wc.cell? ⟨w.heap.size,1,none⟩=some (.int .i64 7):=z.out 1 _ rfl
 have f1:=cK HW.out ab HX.out.2.2.2.2.2.2.2.2
 have q0:wc.cell? ⟨w.heap.size,0,none⟩=some (.int .i64 j.at_):=z.out 0 _ rfl
 have q2:wc.cell? ⟨w.heap.size,2,none⟩=some (.slice oa 1 oc):=z.out 2 _ rfl
 have q3:wc.cell? ⟨w.heap.size,3,none⟩=some (j.ins):=z.out 3 _ rfl
 have q4:wc.cell? ⟨w.heap.size,4,none⟩=some (.slice sa ss.length sc):=z.out 4 _ rfl
 have q5:wc.cell? ⟨w.heap.size,5,none⟩=some (.string j.op):=z.out 5 _ rfl
 have q6:wc.cell? ⟨w.heap.size,6,none⟩=some (.string j.left.1):=z.out 6 _ rfl
 have q7:wc.cell? ⟨w.heap.size,7,none⟩=some (.int .i64 j.left.2.1):=z.out 7 _ rfl
 have q8:wc.cell? ⟨w.heap.size,8,none⟩=some (.int .i64 j.left.2.2.1):=z.out 8 _ rfl
 have q9:wc.cell? ⟨w.heap.size,9,none⟩=some (.string j.left.2.2.2):=z.out 9 _ rfl
 have a7:wc.cell? ⟨w.heap.size,10,none⟩=some (.string j.right.1):=z.out 10 _ rfl
 have aO:wc.cell? ⟨w.heap.size,11,none⟩=some (.int .i64 j.right.2.1):=z.out 11 _ rfl
 have aQ:wc.cell? ⟨w.heap.size,12,none⟩=some (.int .i64 j.right.2.2.1):=z.out 12 _ rfl
 have aW:wc.cell? ⟨w.heap.size,13,none⟩=some (.string j.right.2.2.2):=z.out 13 _ rfl
 have a4:wc.cell? ⟨w.heap.size,14,none⟩=some (.int .i64 j.retry):=z.out 14 _ rfl
 go_wp2_with (go_at_call 25;fail)
 refine(aE.out _ (Qad HW.out _)).mono ?_
 rintro e w3 ⟨hO,ap⟩
 have HR:=Hk (show QaO e w3 w.heap.size (QaQ cs E x y) [Qb0 cs E (pOf E y)] from(QcF.res hO).lower (by simp;omega))
 have al:=Hk (Qaa (Qad HW.out _) ap)
 clear ap
 rcases hO with ⟨aZ,rfl⟩|⟨-,g,u,rfl,-⟩
 ·go_wp2
  go_ret2
  exact⟨HR.out,al.out⟩
 ·go_wp2
  go_ret2
  exact⟨HR.out,al.out⟩
theorem Qhy (F K ae b o n c oc:Nat) (oa:Option Addr) (cs:List Cl) (ss:List ByteArray) (j:Jb) (w:World) (ab:F<w.heap.size) (h0:w.cell? ⟨F,K,none⟩=some (.slice (some ⟨b,o,none⟩) n c)) (aa:QaX w j.cols ss) (aN:ss.length<=100) (hn:cs.length=n) (aK:1<=n) (aQ:n<=40) (aS:n<=c) (ah:b<w.heap.size) (hc:Qas w b o cs) (hsz:∀x∈cs,x.1.size<=maxLen) (b2 M n2 c2:Nat) (I:List Cl) (h1:w.cell? ⟨F,K+1,none⟩=some (.slice (some ⟨b2,M,none⟩) n2 c2)) (af:I.length=n2) (aH:n2<=40) (aj:b2<w.heap.size) (ag:Qas w b2 M I) (Z:∀x∈I,x.1.size<=maxLen) (J:j.code=5) (hj:j.outs=.slice oa 1 oc):
 Calls Tryz.prog 9 #[.agg j.cells,.slice (some ⟨F,K,none⟩) 2 ae] w fun e w'=>QaO e w' w.heap.size (Qcj cs I) [cs]/\Below w.heap.size w w':=by
 have aW:=mkF
 obtain⟨sv,O⟩:∃q,j.cols=q:=⟨_,rfl⟩
 obtain⟨sa,sc,rfl,aT,aM,T⟩:=O▸aa
 have B:=Hk (Ai hn (Ai hc (Ai hsz (Ai h0 (Ai aa (Ai af (Ai ag (Ai Z h1))))))))
 refine Qa6 F K 2 ae 1 ss.length sc oc n c oa sa (some ⟨b,o,none⟩) j w ab h0 (by rw[J];rfl) (by decide) hj O _ ?_
 iterate 226 intro _
 intro A N wc y
 clear aa h0 hn hc hsz T af ag Z h1
 have HW:=Hk y.bel
 have aX:=y.big
 have aL:w.heap.size<wc.heap.size:=by omega
 have aU:F<wc.heap.size:=by omega
 have a0:=y.a0
 have m0:=y.m0
 have aO:=y.Al
 have aV:=y.Nl
 have aJ:=y.A0
 have aP:=y.N0
 have av:=Hk (show∀k v,(#[.int .i64 j.at_,.int .i64 5,.slice oa 1 oc,j.ins,.slice sa ss.length sc,.string j.op,.string j.left.1,.int .i64 j.left.2.1,.int .i64 j.left.2.2.1,.string j.left.2.2.2,.string j.right.1,.int .i64 j.right.2.1,.int .i64 j.right.2.2.1,.string j.right.2.2.2,.int .i64 j.retry]:Array Value)[k]? =some v->wc.cell? ⟨w.heap.size,k,none⟩=some v from fun k v hk=>y.job k v (by unfold Jb.cells;rw[hj,J,O];exact hk))
 have f0:=cK HW.out ab B.out.2.2.2.1
 clear y
 conv=>arg 2;whnf
 have j1:wc.cell? ⟨w.heap.size,1,none⟩=some (.int .i64 5):=av.out 1 _ rfl
 have f1:=cK HW.out ab B.out.2.2.2.2.2.2.2.2
 have ax:=Hk (show∀V,Below w.heap.size w V->Qav V (.slice (some ⟨b,o,none⟩) n c) cs from fun V h=>⟨some ⟨b,o,none⟩,c,by rw[B.out.1],by have:=B.out.1;omega,B.out.2.2.1,Or.inr ⟨b,o,rfl,by have:=h.size;omega,B.out.2.1.below h ah⟩⟩)
 have aA:=Hk (fun V (h:Below w.heap.size w V)=>QgH b o c b2 M c2 n n2 cs I V B.out.1 B.out.2.2.2.2.2.1 (by omega) (by omega) (by have:=h.size;omega) (by have:=h.size;omega) (B.out.2.1.below h ah) (B.out.2.2.2.2.2.2.1.below h aj))
 have H3:=Hk (fun o1 M=>Qad (Qad HW.out o1) M)
 go_wp2_with (go_at_call 24;fail)
 refine(aA.out _ (H3.out _ _)).mono ?_
 rintro e w3 ⟨t,rfl,D,E⟩
 have g0:w3.cell? ⟨wc.heap.size+1,0,none⟩=some (.int .i64 13):=by
  have e1:=E.cell (p:=⟨wc.heap.size+1,0,none⟩) (by simp)
  rw[e1,show wc.heap.size+1=(wc.alloc (.cells #[.slice (some ⟨b,o,none⟩) n c] 33)).heap.size by simp]
  simp
 have g1:w3.cell? ⟨wc.heap.size,0,none⟩=some (.slice (some ⟨b,o,none⟩) n c):=by
  have e1:=E.cell (p:=⟨wc.heap.size,0,none⟩) (by simp;omega)
  rw[e1,World.cell?_alloc_past _ _ _ (by simp)]
  simp
 have T:=E.size
 simp at T
 have U:=Hk (Qaa (H3.out _ _) E)
 have aD:=Hk g1
 have aR:wc.heap.size+1<w3.heap.size:=by omega
 clear E
 cases t
 ·have HV:=Hk (show Qcj cs I=13 by unfold Qcj;rw[if_neg (fun h=>by have:=D.2 h;cases this)])
  clear D g1
  go_wp2_with (first|(go_at_call 20;refine(QkM true 0 rfl _ _ rfl).mono ?_;rintro e w4 ⟨rfl,z⟩;subst z)|(go_at_fn 20;refine(QkM true 0 rfl _ _ rfl).mono ?_;rintro e w4 ⟨rfl,z⟩;subst z))
  go_quiet (fail)
  go_wp2
  go_ret2
  exact⟨Or.inl ⟨by rw[HV.out];decide,by rw[HV.out];rfl⟩,below_drewN (Qad U.out _) _⟩
 ·have HV:=Hk (show Qcj cs I=0 by unfold Qcj;rw[if_pos (D.1 rfl)])
  clear D g0
  go_wp2_with (first|(go_at_call 20;refine(QkM false (-1) rfl _ _ rfl).mono ?_;rintro e w4 ⟨rfl,z⟩;subst z)|(go_at_fn 20;refine(QkM false (-1) rfl _ _ rfl).mono ?_;rintro e w4 ⟨rfl,z⟩;subst z))
  go_ret2
  refine⟨Or.inr ⟨HV.out,wc.heap.size,1,rfl,by omega,by simp;omega,?_⟩,Qad U.out _⟩
  intro i hi
  obtain rfl:i=0:=by simp at hi;omega
  exact⟨.slice (some ⟨b,o,none⟩) n c,(World.cell?_alloc_past _ _ _ (by show wc.heap.size<_;omega)).trans aD.out,ax.out _ (Qad U.out _)⟩
end Go.Proofs.YtofidnijfnhpaaaGreatDoor
