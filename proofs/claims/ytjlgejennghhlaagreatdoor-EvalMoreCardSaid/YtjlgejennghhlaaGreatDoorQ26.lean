import Derived.Test.YtjlgejennghhlaaGreatDoorQ01
import Derived.Test.YtjlgejennghhlaaGreatDoorQ24
import Derived.Test.YtjlgejennghhlaaGreatDoorQ08
import Derived.Test.YtjlgejennghhlaaGreatDoorQ25
set_option linter.unusedSimpArgs false
set_option linter.unusedVariables false
set_option linter.unusedSectionVars false
set_option maxRecDepth 1000000
set_option maxHeartbeats 16000000
namespace Go.Proofs.YtjlgejennghhlaaGreatDoor
open Go.RowKit
theorem Qgy (F I ag b o n c b2 o2 n2 c2:Nat) (j:Jb) (r:Int) (w:World) (y:j.code=7) (af:F<w.heap.size) (h0:w.cell? ⟨F,I,none⟩=some (.slice (some ⟨b,o,none⟩) n c)) (h1:w.cell? ⟨F,I+1,none⟩=some (.slice (some ⟨b2,o2,none⟩) n2 c2))
 (J:∀W,Below w.heap.size w W->Calls Tryz.prog 128 #[.agg j.cells,.slice (some ⟨b,o,none⟩) n c,.slice (some ⟨b2,o2,none⟩) n2 c2] W fun e w'=>e=.returned (QbK r)/\Below W.heap.size W w'):
 Calls Tryz.prog 96 #[.agg j.cells,.slice (some ⟨F,I,none⟩) 2 ag] w fun e w'=>e=.returned (QbK r)/\Below w.heap.size w w':=by
 have h:=Qce w j 50;have D:=Qaa w (.cells j.cells 50);obtain⟨W,H⟩:∃W,W=w.alloc (.cells j.cells 50):=⟨_,rfl⟩;rw[<-H] at h D;have e0:=cell_regrown (show W.cell? ⟨w.heap.size,0,none⟩=some (.int .i64 j.at_) from h 0 _ rfl);have e1:=cell_regrown (show W.cell? ⟨w.heap.size,1,none⟩=some (.int .i64 7) from by have:=h 1 (.int .i64 j.code) rfl;rw[y] at this;exact this);have e2:=cell_regrown (show W.cell? ⟨w.heap.size,2,none⟩=some j.outs from h 2 _ rfl);have e3:=cell_regrown (show W.cell? ⟨w.heap.size,3,none⟩=some j.ins from h 3 _ rfl);have e4:=cell_regrown (show W.cell? ⟨w.heap.size,4,none⟩=some j.cols from h 4 _ rfl);have e5:=cell_regrown (show W.cell? ⟨w.heap.size,5,none⟩=some (.string j.op) from h 5 _ rfl);have e6:=cell_regrown (show W.cell? ⟨w.heap.size,6,none⟩=some (.string j.left.1) from h 6 _ rfl);have e7:=cell_regrown (show W.cell? ⟨w.heap.size,7,none⟩=some (.int .i64 j.left.2.1) from h 7 _ rfl);have e8:=cell_regrown (show W.cell? ⟨w.heap.size,8,none⟩=some (.int .i64 j.left.2.2.1) from h 8 _ rfl);have e9:=cell_regrown (show W.cell? ⟨w.heap.size,9,none⟩=some (.string j.left.2.2.2) from h 9 _ rfl);have ad:=cell_regrown (show W.cell? ⟨w.heap.size,10,none⟩=some (.string j.right.1) from h 10 _ rfl);have U:=cell_regrown (show W.cell? ⟨w.heap.size,11,none⟩=some (.int .i64 j.right.2.1) from h 11 _ rfl);have aj:=cell_regrown (show W.cell? ⟨w.heap.size,12,none⟩=some (.int .i64 j.right.2.2.1) from h 12 _ rfl);have ab:=cell_regrown (show W.cell? ⟨w.heap.size,13,none⟩=some (.string j.right.2.2.2) from h 13 _ rfl);have V:=cell_regrown (show W.cell? ⟨w.heap.size,14,none⟩=some (.int .i64 j.retry) from h 14 _ rfl);have f1:=cell_regrown (cK D af h1);unfold Jb.cells at J H⊢;rw[y] at J H⊢;generalize QbK r=ev at*;have N:∀d os,_:=fun d os=>Calls.regrown_of (J (Sort.grow (redrawn W d) os) (bel_then D (below_regrown _ _ _)))
 have Z:=Hk D;clear h D J y;go_enter Tryz.func96,Tryz.ntmps96;go_wp2;rw[<-H];clear H;refine wp_region_quiet_below (by kernel_rfl) (by kernel_rfl) ?_
 repeat(any_goals(first|go_big_quiet_step (exact N _ _)|quiet_step (exact N _ _)))
 refine wpQuiet_nil ?_;intro _ O;obtain⟨⟨dq,K⟩,M⟩:=O;subst M;have aa:=Hk (bel_then Z.out (below_regrown W dq K));clear e0 e1 e2 e3 e4 e5 e6 e7 e8 e9 ad U aj ab V f1 N Z;generalize Sort.grow (redrawn W dq) K=W5 at*;go_wp2;go_ret;exact⟨rfl,aa.out⟩
theorem QeN (K U aB b o c N O c2 F H J q:Nat) (cs D:List Cl) (y:ByteArray) (j:Jb) (w:World) (af:j.code=7) (hj:j.cols=.slice (some ⟨F,H,none⟩) 2 J) (al:F<w.heap.size) (s1:w.cell? ⟨F,H+1,none⟩=some (.string y)) (aw:K<w.heap.size) (h0:w.cell? ⟨K,U,none⟩=some (.slice (some ⟨b,o,none⟩) cs.length c)) (h1:w.cell? ⟨K,U+1,none⟩=some (.slice (some ⟨N,O,none⟩) D.length c2)) (hq:Qaq D y.data.toList=some q)
 (hn:cs.length<=40) (az:b<w.heap.size) (hc:Qau w b o cs) (aK:D.length<=40) (ak:D.length<=c2) (ah:N<w.heap.size) (aa:Qau w N O D):
 Calls Tryz.prog 97 #[.agg j.cells,.slice (some ⟨K,U,none⟩) 2 aB] w fun e w'=>∃u,e=.returned u/\w'.ownsRow w.heap.size 64 2 u (Qb7 cs D q).length (Qak (Qb7 cs D q))/\Below w.heap.size w w':=by
 have ag:=Hk (fun W (h:Below w.heap.size w W)=>QaH N O D.length c2 D y W rfl (by omega) (by have:=h.size;omega) (aa.below h ah));rw[QaN hq] at ag;have ay:=Hk (fun W (h:Below w.heap.size w W)=>Qgv b o c N O c2 q cs D W (by have:=h.size;omega) (hc.below h az) (by have:=h.size;omega) (aa.below h ah) (Qap hq) ak (by omega) (by omega));have hJ:=Qce w j 50;have k4:(w.alloc (.cells j.cells 50)).cell? ⟨w.heap.size,4,none⟩=some (.slice (some ⟨F,H,none⟩) 2 J):=by have:=hJ 4 j.cols rfl;rw[hj] at this;exact this
 have I:=Qaa w (.cells j.cells 50);have KP:=Hk (fun W (h:Below w.heap.size w W) (aq:W.cell? ⟨w.heap.size,4,none⟩=some (.slice (some ⟨F,H,none⟩) 2 J))=>Ai (cK h aw h1) (Ai aq (cK h al s1)));have HK:=Hk k4;clear hJ hq hc aa I k4;unfold Jb.cells at HK⊢;rw[af,hj] at HK⊢;go_enter Tryz.func97,Tryz.ntmps97;go_wp2_with fail;obtain⟨W,h⟩:∃W,W=w.alloc (.cells #[.int .i64 j.at_,.int .i64 7,j.outs,j.ins,.slice (some ⟨F,H,none⟩) 2 J,.string j.op,.string j.left.1,.int .i64 j.left.2.1,.int .i64 j.left.2.2.1,.string j.left.2.2.2,.string j.right.1,.int .i64 j.right.2.1,.int .i64 j.right.2.2.1,.string j.right.2.2.2,.int .i64 j.retry] 50):=⟨_,rfl⟩;rw[<-h] at HK⊢;have I:Below w.heap.size w W:=by rw[h];exact Qaa _ _
 have am:w.heap.size<W.heap.size:=by rw[h];simp
 have Z:=Hk I;obtain⟨i0,i1,i2⟩:=KP.out W I HK.out;have KX:Hid (∀V V':World,Below w.heap.size w V->V.cell? ⟨w.heap.size,4,none⟩=some (.slice (some ⟨F,H,none⟩) 2 J)->w.heap.size<V.heap.size->Below V.heap.size V V'->V'.cell? ⟨K,U+1,none⟩=some (.slice (some ⟨N,O,none⟩) D.length c2)/\V'.cell? ⟨w.heap.size,4,none⟩=some (.slice (some ⟨F,H,none⟩) 2 J)/\V'.cell? ⟨F,H+1,none⟩=some (.string y)):=Hk (fun V V' h1 h2 h3 h4=>KP.out V' (bel_then h1 h4) (cK h4 h3 h2));clear h I h0 h1 s1
 go_region_held3 (fun w'=>w'.cell? ⟨K,U+1,none⟩=some (.slice (some ⟨N,O,none⟩) D.length c2)/\w'.cell? ⟨w.heap.size,4,none⟩=some (.slice (some ⟨F,H,none⟩) 2 J)/\w'.cell? ⟨F,H+1,none⟩=some (.string y))
  (first|(go_keep;done)|exact⟨m0,m1,m2⟩|exact⟨k0,k1,k2⟩)
  (first|(go_at_call 133;refine(ag.out _ Z.out.drew).mono ?_;rintro e w1 ⟨rfl,M⟩;obtain⟨k0,k1,k2⟩:=KX.out W.drew w1 Z.out.drew HK.out am M;have ab:=Hk (bel_then Z.out.drew M);have aJ:W.heap.size<=w1.heap.size:=M.size)|(go_at_call 132;refine(ay.out _ ab.out).mono ?_;rintro e w2 ⟨v2,rfl,aA,ad⟩;obtain⟨m0,m1,m2⟩:=KX.out w1 w2 ab.out k1 (by omega) ad;have au:=Hk (bel_then ab.out ad)))
 go_wp2;go_ret;exact⟨_,rfl,own_mono (by omega) aA,au.out⟩
theorem QgT {w:World} {B B':Nat} {v:Value} {us:List Value} {rs:List (List Vl)} (I:w.ownsRow B 84 1 v rs.length us) (y:Qab w B' us rs):Qcg w v rs:=by
 have F:=I;obtain⟨aa,⟨rfl,D⟩|⟨g,H,ab,rfl,hg,hh,D,hm,_,_⟩⟩:=I
 ·exact⟨none,0,by rw[D],Or.inl (List.length_eq_zero_iff.1 D)⟩
 ·refine⟨some ⟨g,0,none⟩,H,rfl,Or.inr ⟨g,0,rfl,(F.lt g rfl).2,fun j hj=>?_⟩⟩;have h:j<us.length:=by rw[y.1];exact hj
  refine⟨us[j],?_,?_⟩
  ·have e:=F.cellAt j (by omega);rw[show 0+j=j by omega,e,List.getElem?_eq_getElem h]
  ·have U:=QbB (y.2 j h hj).1 (y.2 j h hj).2;obtain⟨a,c,e,V,K⟩:=U;refine⟨a,c,e,?_,V,K⟩;obtain⟨-,⟨J,M⟩|⟨g',N,Z,J,-,-,O,-⟩⟩:=(y.2 j h hj).1
   ·rw[M];exact Nat.zero_le _
   ·rw[J] at e;simp only[Value.slice.injEq] at e;omega
theorem QiO (tb tcap h no cc p q:Nat) (vc vr az am:Value) (cs J:List Cl) (rs F:List (List Vl)) (x y:ByteArray) (j:Jb) (w:World) (N:j.code=7) (hj:j.cols=.slice (some ⟨h,no,none⟩) 2 cc) (aF:h<w.heap.size) (s0:w.cell? ⟨h,no,none⟩=some (.string x)) (s1:w.cell? ⟨h,no+1,none⟩=some (.string y)) (hp:Qaq cs x.data.toList=some p) (hq:Qaq J y.data.toList=some q) (U:tb<w.heap.size) (t0:w.cell? ⟨tb,0,none⟩=some vc) (t1:w.cell? ⟨tb,1,none⟩=some vr) (t2:w.cell? ⟨tb,2,none⟩=some az) (t3:w.cell? ⟨tb,3,none⟩=some am)
 (hc:Qax w vc cs) (hr:QaG w vr rs) (aC:Qax w az J) (av:Qcg w am F) (aI:∀r∈F,r.length=J.length) (aO:F.length<=100) (aJ:1<=J.length) (bw:J.length<=40) (h1:1<=cs.length) (h6:cs.length<=40) (hl:∀r∈rs,r.length=cs.length) (ay:rs.length<=100):
 Calls Tryz.prog 102 #[.agg j.cells,.slice (some ⟨tb,0,none⟩) 2 tcap] w fun e w'=>∃v1 us1,e=.returned (.tuple #[v1,.slice none 0 0,.nilIface])/\w'.ownsRow w.heap.size 84 1 v1 (joinL rs F p q).length us1/\Qab w' w.heap.size us1 (joinL rs F p q)/\Below w.heap.size w w':=by
 have bz:=mkF;have aA:=Hk (fun W (Z:Below w.heap.size w W)=>Qa0 vr rs cs.length W (hr.below Z) hl h1 (by omega) ay);have a6:=Qap hp;have be:=Qap hq;have a2:=Hk (fun(v:Value) W (Z:Below w.heap.size w W) (hv:Qcg W v rs)=>Qkz v am rs F cs.length J.length p q W hv (av.below Z) hl aI h1 (by omega) aJ (by omega) a6 be ay aO);obtain⟨b1,o1,K,rfl,aR,ag⟩:=QbF hc h1;obtain⟨b2,o2,M,rfl,aS,aj⟩:=QbF aC aJ;have aB:Hid (∀(v:Value) (nm:ByteArray) (k:Int) (W:World),Below w.heap.size w W->(v=.slice (some ⟨b1,o1,none⟩) cs.length K/\nm=x/\k=(p:Int)\/v=.slice (some ⟨b2,o2,none⟩) J.length M/\nm=y/\k=(q:Int))->Calls Tryz.prog 133 #[v,.string nm] W fun e w'=>e=.returned (.int .i64 k)/\Below W.heap.size W w'):=by
  refine Hk ?_;rintro v nm k W Z (⟨rfl,rfl,rfl⟩|⟨rfl,rfl,rfl⟩)
  ·rw[<-QaN hp];exact QaH b1 o1 cs.length K cs nm W rfl (by omega) (by have:=Z.size;omega) (ag.below Z aR)
  ·rw[<-QaN hq];exact QaH b2 o2 J.length M J nm W rfl (by omega) (by have:=Z.size;omega) (aj.below Z aS)
 clear hl aI hc aC ag aj hp hq;obtain⟨ra,a0,rfl,-⟩:=hr;obtain⟨aE,ao,rfl,-⟩:=av;have ax:QaC (w.alloc (.cells j.cells 50)) w.heap.size j:=fun k v hk=>by rw[World.cell?_alloc_at _ _ _ _ rfl];exact hk
 have O:=Hk ax;clear ax;unfold Jb.cells at O⊢;rw[N,hj] at O⊢;have aH:=Hk (Ai N hj);clear N hj
 all_goals
  go_enter Tryz.func102,Tryz.ntmps102;go_wp2_with fail
  go_cut [7,8] (fun p v wx=>∃(ab:Nat) (us:List Value),p=.pointer (some ⟨ab,0,none⟩)/\wx.cell? ⟨ab,0,none⟩=some (.slice (some ⟨b1,o1,none⟩) cs.length K)/\ab<wx.heap.size/\wx.ownsRow (w.heap.size+1) 84 1 v rs.length us/\Qab wx (w.heap.size+1) us rs/\QaC wx w.heap.size j/\Below w.heap.size w wx)
  case first=>
   go_region_held3 (fun w'=>w'.cell? ⟨tb,0,none⟩=some (.slice (some ⟨b1,o1,none⟩) cs.length K)/\w'.cell? ⟨tb,1,none⟩=some (.slice ra rs.length a0))
    (first|(go_keep;done)|exact⟨(World.cell?_setCell_other _ _ _ _ (by intro e;simp at e;try omega)).trans k0,(World.cell?_setCell_other _ _ _ _ (by intro e;simp at e;try omega)).trans k1⟩)
    (first|(go_at_call 137;refine(aA.out _ (by first|exact(Qaa _ _).drew|exact(bel_box (Qaa _ _) _).drew)).mono ?_;rintro e w1 ⟨v1,us,rfl,aK,aw,D⟩;have I:=bel_then (show Below w.heap.size w _ from(by first|exact(Qaa _ _).drew|exact(bel_box (Qaa _ _) _).drew)) D;have k0:=cK I U t0;have k1:=cK I U t1;have bA:tb<w1.heap.size:=Nat.lt_of_lt_of_le U I.size;(try(have kb:=(D.cell (p:=⟨w.heap.size+1,0,none⟩) (by simp)).trans (show _=some (Value.slice none 0 0) by simp);have kf:=(D.frozen (p:=⟨w.heap.size+1,0,none⟩) (by simp)).trans (show _=false by simp);have kz:w.heap.size+1<w1.heap.size:=by(have:=D.size;simp at this;omega)))))
   all_goals go_wp2_with fail
   all_goals go_meet
   ·have al:QaC w1 w.heap.size j:=fun k v hk=>(D.cell (p:=⟨w.heap.size,k,none⟩) (by simp)).trans (by simpa using O.out k v hk)
    exact⟨w1.heap.size,us,rfl,by simp,by simp,(own_mono (by simp) aK).alloc _,(aw.mono (by simp)).below (Qaa _ _),al.below (Qaa _ _) (by have:=D.size;simp at this;omega),bel_box I _⟩
   ·have al:QaC w1 w.heap.size j:=fun k v hk=>(D.cell (p:=⟨w.heap.size,k,none⟩) (by simp;omega)).trans (by simpa using O.out k v hk)
    exact⟨w.heap.size+1,us,rfl,World.cell?_setCell_same _ _ _ kb,by simpa using kz,own_mono (by simp) (ownsRow_setCell_below aK (by simp) _),(Qab.set aw (by simp)).mono (by simp),fun k v hk=>(World.cell?_setCell_other _ _ _ _ (by intro e;simp at e)).trans (al k v hk),I.setCell (by show w.heap.size<=w.heap.size+1;omega) _⟩
  case rest=>
   obtain⟨ab,us,rfl,bh,aT,hv,hH,hJ,H⟩:=hcut;have bx:=H.size;have j1:wc.cell? ⟨w.heap.size,1,none⟩=some (.int .i64 7):=by have:=hJ 1 (.int .i64 j.code) rfl;rw[aH.out.1] at this;exact this
   have j4:wc.cell? ⟨w.heap.size,4,none⟩=some (.slice (some ⟨h,no,none⟩) 2 cc):=by have:=hJ 4 j.cols rfl;rw[aH.out.2] at this;exact this
   have aZ:=hJ.lt;have z2:=cK H U t2;have z3:=cK H U t3;have z4:=cK H aF s0;have z5:=cK H aF s1;have KX:Hid (∀V,Below wc.heap.size wc V->V.cell? ⟨tb,3,none⟩=some (.slice aE F.length ao)/\V.cell? ⟨ab,0,none⟩=some (.slice (some ⟨b1,o1,none⟩) cs.length K)/\V.cell? ⟨w.heap.size,4,none⟩=some (.slice (some ⟨h,no,none⟩) 2 cc)/\V.cell? ⟨h,no,none⟩=some (.string x)/\V.cell? ⟨tb,2,none⟩=some (.slice (some ⟨b2,o2,none⟩) J.length M)/\V.cell? ⟨h,no+1,none⟩=some (.string y)):=Hk (fun V hV=>⟨cK hV (by omega) z3,cK hV aT bh,cK hV aZ j4,cK hV (by omega) z4,cK hV (by omega) z2,cK hV (by omega) z5⟩);have HB:=Hk (Ai H (QgT hv hH));obtain⟨xa,xc,rfl⟩:=own_slice hv;clear H hv hH hJ aA O t0 t1 t2 t3 s0 s1;have ai:=Hk (Ai (show Below wc.heap.size wc wc.drew from(Below.refl _ _).drew) HB.out.1.drew);go_wp2_with fail
   go_region_held3 (fun V=>V.cell? ⟨tb,3,none⟩=some (.slice aE F.length ao)/\V.cell? ⟨ab,0,none⟩=some (.slice (some ⟨b1,o1,none⟩) cs.length K)/\V.cell? ⟨w.heap.size,4,none⟩=some (.slice (some ⟨h,no,none⟩) 2 cc)/\V.cell? ⟨h,no,none⟩=some (.string x)/\V.cell? ⟨tb,2,none⟩=some (.slice (some ⟨b2,o2,none⟩) J.length M)/\V.cell? ⟨h,no+1,none⟩=some (.string y))
    (first|(go_keep;done)|exact KX.out _ a8.out|exact KX.out _ ah.out|exact KX.out _ aM.out)
    (first|(go_at_call 147;refine(a2.out _ _ ac.out (HB.out.2.below ah.out)).mono ?_;rintro e w3 ⟨v3,bb,rfl,bi,bj,aG⟩;have a8:=Hk (bel_then ah.out aG);have a7:=Hk (bel_then ac.out aG))|(go_at_call 133;refine(aB.out _ _ _ _ aL.out (by first|exact Or.inl ⟨rfl,rfl,rfl⟩|exact Or.inr ⟨rfl,rfl,rfl⟩)).mono ?_;rintro e w2 ⟨rfl,aD⟩;have ah:=Hk (bel_then aM.out aD);have ac:=Hk (bel_then aL.out aD))|(go_at_call 133;refine(aB.out _ _ _ _ ai.out.2 (by first|exact Or.inl ⟨rfl,rfl,rfl⟩|exact Or.inr ⟨rfl,rfl,rfl⟩)).mono ?_;rintro e w1 ⟨rfl,D⟩;have aM:=Hk (bel_then ai.out.1 D);have aL:=Hk (bel_then ai.out.2 D)))
   go_wp2
   go_ret3
   exact⟨_,bb,rfl,own_mono (by have:=ac.out.size;omega) bi,bj.mono (by have:=ac.out.size;omega),a7.out⟩
def QbR (w:World) (v:Value) (x y:ByteArray):Prop:=∃nb no cc,v=.slice (some ⟨nb,no,none⟩) 2 cc/\nb<w.heap.size/\w.cell? ⟨nb,no,none⟩=some (.string x)/\w.cell? ⟨nb,no+1,none⟩=some (.string y)
theorem QbR.below {w w':World} {v:Value} {x y:ByteArray} (h:QbR w v x y) (F:Below w.heap.size w w'):QbR w' v x y:=by
 obtain⟨H,no,I,e,D,K,J⟩:=h;exact⟨H,no,I,e,Nat.lt_of_lt_of_le D F.size,cK F D K,cK F D J⟩
def pOf (cs:List Cl) (x:ByteArray):Nat:=(Qaq cs x.data.toList).getD 0
def Qb4 (t u:Tb) (x y:ByteArray):Int:=if Qae t.1 t.2=false\/Qae u.1 u.2=false then 1 else if QaW t.1 u.1 x y≠0 then QaW t.1 u.1 x y else if 60<(joinL t.2 u.2 (pOf t.1 x) (pOf u.1 y)).length then 12 else 0
theorem Qd2 {cs D:List Cl} {x y:ByteArray} (h:QaW cs D x y=0):Qaq cs x.data.toList=some (pOf cs x)/\Qaq D y.data.toList=some (pOf D y):=by
 unfold QaW at h;unfold pOf;split at h
 ·rename_i p q F H
  rw[F,H];exact⟨rfl,rfl⟩
 ·cases h
theorem QhM {W:World} {B g Z:Nat} {us:List Value} {cs y:List Cl} (K:W.ownsRow B 51 1 (.slice (some ⟨g,0,none⟩) 2 Z) 2 us) (hh:QaE W us [cs,y]) (h1:1<=cs.length) (ad:1<=y.length):
 ∃b o c D H F,W.cell? ⟨g,0,none⟩=some (.slice (some ⟨b,o,none⟩) cs.length c)/\W.cell? ⟨g,0+1,none⟩=some (.slice (some ⟨D,H,none⟩) y.length F)/\g<W.heap.size/\b<W.heap.size/\D<W.heap.size/\Qau W b o cs/\Qau W D H y/\y.length<=F/\(∀z∈cs++y,z.1.size<=maxLen):=by
 obtain⟨u,hu,hc⟩:=hh.2 0 (by simp);obtain⟨u',aa,I⟩:=hh.2 1 (by simp);obtain⟨-,-,-,-,hs,-⟩:=id hc;obtain⟨a2,c2,e2,J,U,-⟩:=id I;obtain⟨b,o,c,rfl,O,V⟩:=QbF hc h1;obtain⟨D,H,F,rfl,M,N⟩:=QbF I ad;simp only[Value.slice.injEq] at e2;refine⟨b,o,c,D,H,F,Qcy K 0 _ (by decide) hu,Qcy K 1 _ (by decide) aa,(K.lt g rfl).2,O,M,V,N,by rw[e2.2.2];exact J,fun z hz=>?_⟩;rcases List.mem_append.1 hz with h|h
 ·exact hs z h
 ·exact U z h
theorem Qql {t u:Tb} {x y:ByteArray} {j:Jb} (J:j.code=7) (hr:Qae t.1 t.2=true) (aa:Qae u.1 u.2=true) {W:World} {B g F:Nat} {us:List Value} (hN:QbR W j.cols x y) (ho:W.ownsRow B 51 1 (.slice (some ⟨g,0,none⟩) 2 F) 2 us) (hh:QaE W us [t.1,u.1]):
 ∀D,Below W.heap.size W D->Calls Tryz.prog 96 #[.agg j.cells,.slice (some ⟨g,0,none⟩) 2 F] D fun e w'=>e=.returned (QbK (QaW t.1 u.1 x y))/\Below D.heap.size D w':=by
 obtain⟨M,av,aw,au⟩:=Qam hr;obtain⟨U,az,ax,ay⟩:=Qam aa;obtain⟨b,o,c,b',o',c',Z,ag,I,K,H,ad,O,N,ae⟩:=QhM ho hh M U;intro D h;refine Qgy g 0 F b o t.1.length c b' o' u.1.length c' j _ D J (Nat.lt_of_lt_of_le I h.size) (cK h I Z) (cK h I ag) (fun V hV=>?_);have hV':=bel_then h hV;obtain⟨nb,no,cc,e,hl,s0,s1⟩:=hN.below hV';exact Qjp b o t.1.length c b' o' u.1.length c' nb no cc t.1 u.1 x y j V e hl s0 s1 rfl M (by omega) (Nat.lt_of_lt_of_le K hV'.size) (ad.below hV' K) rfl (by omega) N (Nat.lt_of_lt_of_le H hV'.size) (O.below hV' H) ae
theorem QhN {t u:Tb} {x y:ByteArray} {j:Jb} {w:World} (oa:Option Addr) (V:Nat) (h:j.code=7) (M:j.outs=.slice oa 1 V) (hN:QbR w j.cols x y) (hr:Qae t.1 t.2=true) (J:Qae u.1 u.2=true) (he:QaW t.1 u.1 x y=0):
 ∀W B g D us,Below w.heap.size w W->W.ownsRow B 51 1 (.slice (some ⟨g,0,none⟩) [t,u].length D) [t,u].length us->QaE W us ([t,u].map (·.1))->Calls Tryz.prog 59 #[.agg j.cells,.slice (some ⟨g,0,none⟩) [t,u].length D] W fun e w'=>∃v us,e=.returned (.tuple #[v,.nilIface])/\w'.ownsRow W.heap.size 51 1 v 1 us/\Qbj w' W.heap.size us (Qb7 t.1 u.1 (pOf u.1 y))/\Below W.heap.size W w':=by
 obtain⟨af,au,aw,ar⟩:=Qam hr;obtain⟨O,az,ax,ay⟩:=Qam J;have ae:Qa1 j.code=(((2:Nat):Int),((1:Nat):Int)):=by rw[h];rfl
 intro W B g D us hW ho hh;obtain⟨b,o,c,b',o',c',U,ai,H,I,F,Z,N,K,av⟩:=QhM ho hh af O;refine cols_ok _ oa D V j 2 1 (Qb7 t.1 u.1 (pOf u.1 y)) W M ae (by decide) (by decide) (fun W' hW'=>?_) (fun W' hW'=>?_)
 ·have:=Qql h hr J (hN.below hW) ho hh W' hW';rw[he,QeH] at this;exact this
 ·obtain⟨nb,no,cc,e,hl,s0,s1⟩:=(hN.below hW).below hW';exact QeN g 0 D b o c b' o' c' nb no cc (pOf u.1 y) t.1 u.1 y j W' h e hl s1 (Nat.lt_of_lt_of_le H hW'.size) (cK hW' H U) (cK hW' H ai) (Qd2 he).2 (by omega) (Nat.lt_of_lt_of_le I hW'.size) (Z.below hW' I) (by omega) K (Nat.lt_of_lt_of_le F hW'.size) (N.below hW' F)
theorem QhO {tb tcap:Nat} {t u:Tb} {x y:ByteArray} {H:Value} {j:Jb} {w:World} (J:j.code=7) (hN:QbR w j.cols x y) (U:QaX w tb 0 [t,u]) (D:tb<w.heap.size) (ab:w.cell? ⟨tb,3,none⟩=some H) (V:Qcg w H u.2) (hr:Qae t.1 t.2=true) (O:Qae u.1 u.2=true) (he:QaW t.1 u.1 x y=0):
 ∀W,Below w.heap.size w W->Calls Tryz.prog 102 #[.agg j.cells,.slice (some ⟨tb,0,none⟩) [t,u].length tcap] W fun e w'=>∃I v2 F us2,e=.returned (.tuple #[I,v2,.nilIface])/\w'.ownsRow W.heap.size 84 1 I (joinL t.2 u.2 (pOf t.1 x) (pOf u.1 y)).length F/\Qab w' W.heap.size F (joinL t.2 u.2 (pOf t.1 x) (pOf u.1 y))/\w'.ownsRow W.heap.size 84 1 v2 ([]:List (List Vl)).length us2/\Qab w' W.heap.size us2 []/\Below W.heap.size W w':=by
 obtain⟨ad,ay,aB,M⟩:=Qam hr;obtain⟨K,aA,aC,N⟩:=Qam O;obtain⟨hp,hq⟩:=Qd2 he;intro W h;obtain⟨vc,vr,c0,c1,hc,Z⟩:=U 0 (by simp);obtain⟨ac,az,c2,c3,aa,ai⟩:=U 1 (by simp);obtain⟨nb,no,cc,e,hl,s0,s1⟩:=hN.below h;refine(QiO tb tcap nb no cc (pOf t.1 x) (pOf u.1 y) vc vr ac H t.1 u.1 t.2 u.2 x y j W J e hl s0 s1 hp hq (Nat.lt_of_lt_of_le D h.size) ((h.cell (p:=⟨tb,0,none⟩) D).trans (by simpa using c0)) ((h.cell (p:=⟨tb,1,none⟩) D).trans (by simpa using c1)) ((h.cell (p:=⟨tb,2,none⟩) D).trans (by simpa using c2)) (cK h D ab) (hc.below h) (Z.below h) (aa.below h) (V.below h) N (by omega) K (by omega) ad (by omega) M (by omega)).mono ?_;rintro e w' ⟨I,F,h1,h2,h3,hb⟩;exact⟨I,.slice none 0 0,F,[],h1,h2,h3,World.ownsRow_nil _ _ _ _,Qab.nil _ _,hb⟩
theorem QiP (tb tcap:Nat) (t u:Tb) (x y:ByteArray) (K:Value) (j:Jb) (M:Option Addr) (N:Nat) (w:World) (D:j.code=7) (H:j.outs=.slice M 1 N) (O:QbR w j.cols x y) (J:QaX w tb 0 [t,u]) (F:tb<w.heap.size) (V:w.cell? ⟨tb,3,none⟩=some K) (ab:Qcg w K u.2) (U:Qb4 t u x y≠0):
 Calls Tryz.prog 61 #[.agg j.cells,.slice (some ⟨tb,0,none⟩) 2 tcap] w fun e w'=>e=.returned (.tuple #[.slice none 0 0,QbK (Qb4 t u x y)])/\Below w.heap.size w w':=by
 have aa:Qa1 j.code=(((2:Nat):Int),((1:Nat):Int)):=by rw[D];rfl
 by_cases h1:Qae t.1 t.2=false\/Qae u.1 u.2=false
 ·rw[show Qb4 t u x y=1 by unfold Qb4;rw[if_pos h1]];refine QhC tb 0 tcap [t,u] j w J F (by simp) ?_;rcases h1 with h|h
  ·exact⟨t,by simp,h⟩
  ·exact⟨u,by simp,h⟩
 ·have I:Qae t.1 t.2=true:=by
   cases g:Qae t.1 t.2 with
   |true=>rfl
   |false=>exact absurd (Or.inl g) h1
  have hr':Qae u.1 u.2=true:=by
   cases g:Qae u.1 u.2 with
   |true=>rfl
   |false=>exact absurd (Or.inr g) h1
  by_cases he:QaW t.1 u.1 x y=0
  ·by_cases hf:60<(joinL t.2 u.2 (pOf t.1 x) (pOf u.1 y)).length
   ·rw[show Qb4 t u x y=12 by unfold Qb4;rw[if_neg h1,if_neg (by simpa using he),if_pos hf]];exact QlC tb 0 tcap [t,u] j w J F (by simp) (by simp) (QcD I hr') _ 1 (joinL t.2 u.2 (pOf t.1 x) (pOf u.1 y)) [] hf (QhN M N D H O I hr' he) (QhO D O J F V ab I hr' he)
   ·exfalso;apply U;unfold Qb4;rw[if_neg h1,if_neg (by simpa using he),if_neg hf]
  ·rw[show Qb4 t u x y=QaW t.1 u.1 x y by unfold Qb4;rw[if_neg h1,if_pos he]];refine QhD tb 0 tcap [t,u] j w J F (by simp) (by simp) (QcD I hr') _ he ?_;intro W B g Z us hW ho hh;exact Qdm _ M Z N j 2 1 _ W H aa (by decide) he (Qql D I hr' (O.below hW) ho hh)
theorem Qjq {t u:Tb} {x y:ByteArray} (h:Qb4 t u x y=0):Qae t.1 t.2=true/\Qae u.1 u.2=true/\QaW t.1 u.1 x y=0/\(joinL t.2 u.2 (pOf t.1 x) (pOf u.1 y)).length<=60:=by
 unfold Qb4 at h;split at h
 ·cases h
 ·rename_i F
  split at h
  ·rename_i D;exact absurd h D
  ·rename_i D
   split at h
   ·cases h
   ·rename_i H
    refine⟨?_,?_,by simpa using D,by omega⟩
    ·cases g:Qae t.1 t.2 with
     |true=>rfl
     |false=>exact absurd (Or.inl g) F
    ·cases g:Qae u.1 u.2 with
     |true=>rfl
     |false=>exact absurd (Or.inr g) F
theorem Qn0 {cs y:List Cl} {k:Nat} (F:∀z∈cs,z.1.size<=maxLen) (D:∀z∈y,z.1.size<=maxLen):∀z∈Qb7 cs y k,z.1.size<=maxLen:=by
 intro z h;unfold Qb7 at h;rw[List.mem_append,List.mem_append] at h;rcases h with (h|h)|h
 ·exact F z h
 ·exact D z (List.mem_of_mem_take h)
 ·exact D z (List.mem_of_mem_drop h)
theorem QkA (tb tcap:Nat) (t u:Tb) (x y:ByteArray) (H:Value) (j:Jb) (Z:Option Addr) (N:Nat) (w:World) (h:j.code=7) (K:j.outs=.slice Z 1 N) (hN:QbR w j.cols x y) (F:QaX w tb 0 [t,u]) (I:tb<w.heap.size) (V:w.cell? ⟨tb,3,none⟩=some H) (O:Qcg w H u.2) (M:Qb4 t u x y=0):
 Calls Tryz.prog 61 #[.agg j.cells,.slice (some ⟨tb,0,none⟩) 2 tcap] w fun e w'=>∃g c,e=.returned (.tuple #[.slice (some ⟨g,0,none⟩) 1 c,.nilIface])/\w.heap.size<=g/\g<w'.heap.size/\QbP w' w.heap.size g [(Qb7 t.1 u.1 (pOf u.1 y),joinL t.2 u.2 (pOf t.1 x) (pOf u.1 y))]/\Below w.heap.size w w':=by
 obtain⟨J,D,he,hf⟩:=Qjq M;obtain⟨vc,vr,c0,c1,hc,ae⟩:=F 0 (by simp);obtain⟨ag,af,c2,c3,U,ab⟩:=F 1 (by simp);exact QdU tb 0 tcap [t,u] j w F I (by simp) (by simp) (QcD J D) (Qb7 t.1 u.1 (pOf u.1 y)) (joinL t.2 u.2 (pOf t.1 x) (pOf u.1 y)) [] hf (Qn0 (Qbo hc) (Qbo U)) (QhN Z N h K hN J D he) (QhO h hN F I V O J D he)
abbrev Gr:=Vl×Int
def Qas (gs:List Gr):List Value:=gs.flatMap fun g=>[.int .i64 g.1.1,.int .i64 g.1.2.1,.string g.1.2.2,.int .i64 g.2]
theorem Tryz.infoGrp:(Tryz.prog.info? 254).map (fun i=>(i.zero,i.size,i.bytes))=some (some (.agg #[.int .i64 0,.int .i64 0,.string ⟨#[]⟩,.int .i64 0]),4,40):=by kernel_rfl
theorem QbD (h:List Gr):(Qas h).length=h.length*4:=by
 induction h with
 |nil=>rfl
 |cons c r ih=>simp only[Qas,List.flatMap_cons,List.length_append,List.length_cons,List.length_nil] at ih⊢;omega
theorem QaJ (a b:List Gr):Qas (a++b)=Qas a++Qas b:=by simp[Qas]
def stepG (p q:Nat) (gs:List Gr) (r:List Vl):List Gr:=
 match gs.getLast? with
 |none=>[(vAt r p,(vAt r q).2.1)]
 |some g=>if g.1=vAt r p then gs.dropLast++[(g.1,g.2+(vAt r q).2.1)] else gs++[(vAt r p,(vAt r q).2.1)]
def Qep (p q:Nat) (rs:List (List Vl)):List Gr:=rs.foldl (stepG p q) []
def QaA (gs:List Gr):List (List Vl):=gs.map fun g=>[g.1,(1,g.2,⟨#[]⟩)]
theorem Qd3 {p q:Nat} {y:List Gr} {r:List Vl} (h:∀g,y.getLast? =some g->g.1≠vAt r p):stepG p q y r=y++[(vAt r p,(vAt r q).2.1)]:=by
 unfold stepG
 cases e:y.getLast? with
 |none=>rw[List.getLast?_eq_none_iff] at e;subst e;rfl
 |some g=>simp only[];rw[if_neg (h g e)]
theorem Ql0 {p q:Nat} {y:List Gr} {g:Gr} {r:List Vl} (h:g.1=vAt r p):stepG p q (y++[g]) r=y++[(g.1,g.2+(vAt r q).2.1)]:=by
 unfold stepG;simp[h]
theorem Ql1 (p q:Nat) (h:List Gr) (r:List Vl):(stepG p q h r).length<=h.length+1:=by
 unfold stepG
 cases e:h.getLast? with
 |none=>simp
 |some g=>
  simp only[];split
  ·simp
  ·simp
theorem Qpc {w:World} {B:Nat} {D:List Gr} {g:Gr} {c:Nat} {a:Option Addr} (h:w.ownsRow B 254 4 (.slice a (D.length+1) c) (D.length+1) (Qas (D++[g]))):∃b,a=some ⟨b,0,none⟩/\B<=b/\b<w.heap.size/\w.cell? ⟨b,D.length*4,none⟩=some (.int .i64 g.1.1)/\w.cell? ⟨b,D.length*4+1,none⟩=some (.int .i64 g.1.2.1)/\w.cell? ⟨b,D.length*4+2,none⟩=some (.string g.1.2.2)/\w.cell? ⟨b,D.length*4+3,none⟩=some (.int .i64 g.2)/\∀k,w.frozen? ⟨b,k,none⟩=false:=by
 have M:∀I,a=some ⟨I,0,none⟩->∀k,w.frozen? ⟨I,k,none⟩=false:=by
  intro I J k;obtain⟨-,⟨-,h0⟩|⟨g',V,aa,F,-,U,-⟩⟩:=h
  ·omega
  ·rw[J] at F;simp only[Value.slice.injEq,Option.some.injEq,Addr.mk.injEq] at F;obtain⟨⟨rfl,-⟩,-,-⟩:=F;simp[World.frozen?,U]
 obtain⟨b,c',e,Z,N,hc⟩:=Qcz h (by omega);simp only[Value.slice.injEq] at e;have H:∀k (K:k<4) y,([Value.int .i64 g.1.1,.int .i64 g.1.2.1,.string g.1.2.2,.int .i64 g.2])[k]? =some y->w.cell? ⟨b,D.length*4+k,none⟩=some y:=by
  intro k K y O;have:=hc (D.length*4+k) y (by rw[QaJ,List.getElem?_append_right (by rw[QbD];omega),QbD];simpa [Qas] using O);simpa using this
 exact⟨b,e.1,Z,N,H 0 (by omega) _ rfl,H 1 (by omega) _ rfl,H 2 (by omega) _ rfl,H 3 (by omega) _ rfl,M b e.1⟩
theorem Ql2 {w:World} {B b c:Nat} {y:List Gr} {g:Gr} (h:w.ownsRow B 254 4 (.slice (some ⟨b,0,none⟩) (y.length+1) c) (y.length+1) (Qas (y++[g]))) (t:Int):(w.setCell ⟨b,y.length*4+3,none⟩ (.int .i64 t)).ownsRow B 254 4 (.slice (some ⟨b,0,none⟩) (y.length+1) c) (y.length+1) (Qas (y++[(g.1,t)])):=by
 have e:Qas (y++[(g.1,t)])=(Qas (y++[g])).set (y.length*4+3) (.int .i64 t):=by
  rw[QaJ,QaJ,List.set_append_right _ _ (by rw[QbD];omega),QbD,show y.length*4+3-y.length*4=3 by omega];rfl
 rw[e];exact(h.stored _ _).1
theorem QcF (p q:Nat) (rs:List (List Vl)) (k:Nat) (h:k<rs.length):Qep p q (rs.take (k+1))=stepG p q (Qep p q (rs.take k)) rs[k]:=by
 unfold Qep;rw[List.take_succ_eq_append_getElem h,List.foldl_append];rfl
theorem QfD (p q:Nat) (rs:List (List Vl)):(Qep p q rs).length<=rs.length:=by
 have y:∀(l:List (List Vl)) (acc:List Gr),(l.foldl (stepG p q) acc).length<=acc.length+l.length:=by
  intro l
  induction l with
  |nil=>intro acc;simp
  |cons r l ih=>
   intro acc;have F:=ih (stepG p q acc r);have D:=Ql1 p q acc r;simp only[List.foldl_cons,List.length_cons];omega
 have h:=y rs [];rw[List.length_nil,Nat.zero_add] at h;exact h
theorem QfE (p q:Nat) (rs:List (List Vl)) (J:∀r∈rs,Qaz (vAt r q).2.1):∀g∈Qep p q rs,-(1000000000*(rs.length:Int))<=g.2/\g.2<=1000000000*(rs.length:Int):=by
 have F:∀(l:List (List Vl)) (acc:List Gr) (N:Int),0<=N->(∀r∈l,Qaz (vAt r q).2.1)->(∀g∈acc,-(1000000000*N)<=g.2/\g.2<=1000000000*N)->∀g∈l.foldl (stepG p q) acc,-(1000000000*(N+(l.length:Int)))<=g.2/\g.2<=1000000000*(N+(l.length:Int)):=by
  intro l
  induction l with
  |nil=>intro acc N _ _ h g D;simpa using h g D
  |cons r l ih=>
   intro acc N M I h g D;have H:=I r (by simp);unfold Qaz at H;have h':=ih (stepG p q acc r) (N+1) (by omega) (fun x hx=>I x (by simp[hx])) (fun g' y=>by
    unfold stepG at y
    cases e:acc.getLast? with
    |none=>
     rw[e] at y;simp at y;rw[y];simp only;omega
    |some g0=>
     rw[e] at y;simp only[] at y;have K:=h g0 (List.mem_of_getLast? e);split at y
     ·rcases List.mem_append.1 y with y|y
      ·have:=h g' ((List.dropLast_sublist _).subset y);omega
      ·simp at y;rw[y];simp only;omega
     ·rcases List.mem_append.1 y with y|y
      ·have:=h g' y;omega
      ·simp at y;rw[y];simp only;omega) g (by simpa using D)
   simp only[List.length_cons];push_cast;omega
 intro g D;have:=F rs [] 0 (by omega) J (fun g D=>by simp at D) g D;simpa using this
end Go.Proofs.YtjlgejennghhlaaGreatDoor
