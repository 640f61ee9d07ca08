import Derived.Test.YtjlgejennghhlaaGreatDoorR01
import Derived.Test.YtjlgejennghhlaaGreatDoorR17
import Derived.Test.YtjlgejennghhlaaGreatDoorR18
import Derived.Test.YtjlgejennghhlaaGreatDoorR21
set_option linter.unusedSimpArgs false
set_option linter.unusedVariables false
set_option linter.unusedSectionVars false
set_option maxRecDepth 1000000
set_option maxHeartbeats 16000000
namespace Go.Proofs.YtjlgejennghhlaaGreatDoor
open Go.RowKit
theorem QgB (E H af b o n c b2 o2 n2 c2:Nat) (j:Jb) (r:Int) (w:World) (y:j.code=7) (ae:E<w.heap.size) (h0:w.cell? ⟨E,H,none⟩=some (.slice (some ⟨b,o,none⟩) n c)) (h1:w.cell? ⟨E,H+1,none⟩=some (.slice (some ⟨b2,o2,none⟩) n2 c2))
 (I:∀W,Below w.heap.size w W->Calls Tryz.prog 128 #[.agg j.cells,.slice (some ⟨b,o,none⟩) n c,.slice (some ⟨b2,o2,none⟩) n2 c2] W fun e w'=>e=.returned (QbN r)/\Below W.heap.size W w'):
 Calls Tryz.prog 96 #[.agg j.cells,.slice (some ⟨E,H,none⟩) 2 af] w fun e w'=>e=.returned (QbN r)/\Below w.heap.size w w':=by
 have h:=Qcf w j 50;have D:=Qaa w (.cells j.cells 50);obtain⟨W,F⟩:∃W,W=w.alloc (.cells j.cells 50):=⟨_,rfl⟩;rw[<-F] at h D;have e0:=cell_regrown (show W.cell? ⟨w.heap.size,0,none⟩=some (.int .i64 j.at_) from h 0 _ rfl);have e1:=cell_regrown (show W.cell? ⟨w.heap.size,1,none⟩=some (.int .i64 7) from by have:=h 1 (.int .i64 j.code) rfl;rw[y] at this;exact this);have e2:=cell_regrown (show W.cell? ⟨w.heap.size,2,none⟩=some j.outs from h 2 _ rfl);have e3:=cell_regrown (show W.cell? ⟨w.heap.size,3,none⟩=some j.ins from h 3 _ rfl);have e4:=cell_regrown (show W.cell? ⟨w.heap.size,4,none⟩=some j.cols from h 4 _ rfl);have e5:=cell_regrown (show W.cell? ⟨w.heap.size,5,none⟩=some (.string j.op) from h 5 _ rfl);have e6:=cell_regrown (show W.cell? ⟨w.heap.size,6,none⟩=some (.string j.left.1) from h 6 _ rfl);have e7:=cell_regrown (show W.cell? ⟨w.heap.size,7,none⟩=some (.int .i64 j.left.2.1) from h 7 _ rfl);have e8:=cell_regrown (show W.cell? ⟨w.heap.size,8,none⟩=some (.int .i64 j.left.2.2.1) from h 8 _ rfl);have e9:=cell_regrown (show W.cell? ⟨w.heap.size,9,none⟩=some (.string j.left.2.2.2) from h 9 _ rfl);have ac:=cell_regrown (show W.cell? ⟨w.heap.size,10,none⟩=some (.string j.right.1) from h 10 _ rfl);have O:=cell_regrown (show W.cell? ⟨w.heap.size,11,none⟩=some (.int .i64 j.right.2.1) from h 11 _ rfl);have ai:=cell_regrown (show W.cell? ⟨w.heap.size,12,none⟩=some (.int .i64 j.right.2.2.1) from h 12 _ rfl);have aa:=cell_regrown (show W.cell? ⟨w.heap.size,13,none⟩=some (.string j.right.2.2.2) from h 13 _ rfl);have U:=cell_regrown (show W.cell? ⟨w.heap.size,14,none⟩=some (.int .i64 j.retry) from h 14 _ rfl);have f1:=cell_regrown (cK D ae h1);unfold Jb.cells at I F⊢;rw[y] at I F⊢;generalize QbN r=ev at*;have M:∀d os,_:=fun d os=>Calls.regrown_of (I (Sort.grow (redrawn W d) os) (bel_then D (below_regrown _ _ _)))
 have V:=Hk D;clear h D I y;go_enter Tryz.func96,Tryz.ntmps96;go_wp2;rw[<-F];clear F;refine wp_region_quiet_below (by kernel_rfl) (by kernel_rfl) ?_
 repeat(any_goals(first|go_big_quiet_step (exact M _ _)|quiet_step (exact M _ _)))
 refine wpQuiet_nil ?_;intro _ N;obtain⟨⟨dq,J⟩,K⟩:=N;subst K;have Z:=Hk (bel_then V.out (below_regrown W dq J));clear e0 e1 e2 e3 e4 e5 e6 e7 e8 e9 ac O ai aa U f1 M V;generalize Sort.grow (redrawn W dq) J=W5 at*;go_wp2;go_ret;exact⟨rfl,Z.out⟩
theorem QeQ (J O aA b o c M N c2 E F I q:Nat) (cs D:List Cl) (y:ByteArray) (j:Jb) (w:World) (ae:j.code=7) (hj:j.cols=.slice (some ⟨E,F,none⟩) 2 I) (ak:E<w.heap.size) (s1:w.cell? ⟨E,F+1,none⟩=some (.string y)) (av:J<w.heap.size) (h0:w.cell? ⟨J,O,none⟩=some (.slice (some ⟨b,o,none⟩) cs.length c)) (h1:w.cell? ⟨J,O+1,none⟩=some (.slice (some ⟨M,N,none⟩) D.length c2)) (hq:Qaq D y.data.toList=some q)
 (hn:cs.length<=40) (ay:b<w.heap.size) (hc:Qau w b o cs) (aJ:D.length<=40) (aj:D.length<=c2) (ag:M<w.heap.size) (Z:Qau w M N D):
 Calls Tryz.prog 97 #[.agg j.cells,.slice (some ⟨J,O,none⟩) 2 aA] w fun e w'=>∃u,e=.returned u/\w'.ownsRow w.heap.size 64 2 u (Qb9 cs D q).length (Qal (Qb9 cs D q))/\Below w.heap.size w w':=by
 have af:=Hk (fun W (h:Below w.heap.size w W)=>QaH M N D.length c2 D y W rfl (by omega) (by have:=h.size;omega) (Z.below h ag));rw[QaN hq] at af;have ax:=Hk (fun W (h:Below w.heap.size w W)=>Qgy b o c M N c2 q cs D W (by have:=h.size;omega) (hc.below h ay) (by have:=h.size;omega) (Z.below h ag) (Qap hq) aj (by omega) (by omega));have hJ:=Qcf w j 50;have k4:(w.alloc (.cells j.cells 50)).cell? ⟨w.heap.size,4,none⟩=some (.slice (some ⟨E,F,none⟩) 2 I):=by have:=hJ 4 j.cols rfl;rw[hj] at this;exact this
 have H:=Qaa w (.cells j.cells 50);have KP:=Hk (fun W (h:Below w.heap.size w W) (ap:W.cell? ⟨w.heap.size,4,none⟩=some (.slice (some ⟨E,F,none⟩) 2 I))=>Ai (cK h av h1) (Ai ap (cK h ak s1)));have HK:=Hk k4;clear hJ hq hc Z H k4;unfold Jb.cells at HK⊢;rw[ae,hj] at HK⊢;go_enter Tryz.func97,Tryz.ntmps97;go_wp2_with fail;obtain⟨W,h⟩:∃W,W=w.alloc (.cells #[.int .i64 j.at_,.int .i64 7,j.outs,j.ins,.slice (some ⟨E,F,none⟩) 2 I,.string j.op,.string j.left.1,.int .i64 j.left.2.1,.int .i64 j.left.2.2.1,.string j.left.2.2.2,.string j.right.1,.int .i64 j.right.2.1,.int .i64 j.right.2.2.1,.string j.right.2.2.2,.int .i64 j.retry] 50):=⟨_,rfl⟩;rw[<-h] at HK⊢;have H:Below w.heap.size w W:=by rw[h];exact Qaa _ _
 have al:w.heap.size<W.heap.size:=by rw[h];simp
 have U:=Hk H;obtain⟨i0,i1,i2⟩:=KP.out W H HK.out;have KX:Hid (∀V V':World,Below w.heap.size w V->V.cell? ⟨w.heap.size,4,none⟩=some (.slice (some ⟨E,F,none⟩) 2 I)->w.heap.size<V.heap.size->Below V.heap.size V V'->V'.cell? ⟨J,O+1,none⟩=some (.slice (some ⟨M,N,none⟩) D.length c2)/\V'.cell? ⟨w.heap.size,4,none⟩=some (.slice (some ⟨E,F,none⟩) 2 I)/\V'.cell? ⟨E,F+1,none⟩=some (.string y)):=Hk (fun V V' h1 h2 h3 h4=>KP.out V' (bel_then h1 h4) (cK h4 h3 h2));clear h H h0 h1 s1
 go_region_held3 (fun w'=>w'.cell? ⟨J,O+1,none⟩=some (.slice (some ⟨M,N,none⟩) D.length c2)/\w'.cell? ⟨w.heap.size,4,none⟩=some (.slice (some ⟨E,F,none⟩) 2 I)/\w'.cell? ⟨E,F+1,none⟩=some (.string y))
  (first|(go_keep;done)|exact⟨m0,m1,m2⟩|exact⟨k0,k1,k2⟩)
  (first|(go_at_call 133;refine(af.out _ U.out.drew).mono ?_;rintro e w1 ⟨rfl,K⟩;obtain⟨k0,k1,k2⟩:=KX.out W.drew w1 U.out.drew HK.out al K;have aa:=Hk (bel_then U.out.drew K);have aI:W.heap.size<=w1.heap.size:=K.size)|(go_at_call 132;refine(ax.out _ aa.out).mono ?_;rintro e w2 ⟨v2,rfl,az,ac⟩;obtain⟨m0,m1,m2⟩:=KX.out w1 w2 aa.out k1 (by omega) ac;have ar:=Hk (bel_then aa.out ac)))
 go_wp2;go_ret;exact⟨_,rfl,own_mono (by omega) az,ar.out⟩
theorem QgY {w:World} {B B':Nat} {v:Value} {us:List Value} {rs:List (List Vl)} (h5:w.ownsRow B 84 1 v rs.length us) (y:Qab w B' us rs):Qch w v rs:=by
 have E:=h5;obtain⟨V,⟨rfl,D⟩|⟨g,F,Z,rfl,hg,hh,D,hm,_,_⟩⟩:=h5
 ·exact⟨none,0,by rw[D],Or.inl (List.length_eq_zero_iff.1 D)⟩
 ·refine⟨some ⟨g,0,none⟩,F,rfl,Or.inr ⟨g,0,rfl,(E.lt g rfl).2,fun j hj=>?_⟩⟩;have h:j<us.length:=by rw[y.1];exact hj
  refine⟨us[j],?_,?_⟩
  ·have e:=E.cellAt j (by omega);rw[show 0+j=j by omega,e,List.getElem?_eq_getElem h]
  ·have N:=QbE (y.2 j h hj).1 (y.2 j h hj).2;obtain⟨a,c,e,O,I⟩:=N;refine⟨a,c,e,?_,O,I⟩;obtain⟨-,⟨H,J⟩|⟨g',K,U,H,-,-,M,-⟩⟩:=(y.2 j h hj).1
   ·rw[J];exact Nat.zero_le _
   ·rw[H] at e;simp only[Value.slice.injEq] at e;omega
theorem Qi1 (tb tcap h no cc p q:Nat) (vc vr ay al:Value) (cs I:List Cl) (rs E:List (List Vl)) (x y:ByteArray) (j:Jb) (w:World) (M:j.code=7) (hj:j.cols=.slice (some ⟨h,no,none⟩) 2 cc) (aE:h<w.heap.size) (s0:w.cell? ⟨h,no,none⟩=some (.string x)) (s1:w.cell? ⟨h,no+1,none⟩=some (.string y)) (hp:Qaq cs x.data.toList=some p) (hq:Qaq I y.data.toList=some q) (O:tb<w.heap.size) (t0:w.cell? ⟨tb,0,none⟩=some vc) (t1:w.cell? ⟨tb,1,none⟩=some vr) (t2:w.cell? ⟨tb,2,none⟩=some ay) (t3:w.cell? ⟨tb,3,none⟩=some al)
 (hc:Qax w vc cs) (hr:QaG w vr rs) (aB:Qax w ay I) (au:Qch w al E) (aH:∀r∈E,r.length=I.length) (aN:E.length<=100) (aI:1<=I.length) (bv:I.length<=40) (h1:1<=cs.length) (h6:cs.length<=40) (hl:∀r∈rs,r.length=cs.length) (ax:rs.length<=100):
 Calls Tryz.prog 102 #[.agg j.cells,.slice (some ⟨tb,0,none⟩) 2 tcap] w fun e w'=>∃v1 us1,e=.returned (.tuple #[v1,.slice none 0 0,.nilIface])/\w'.ownsRow w.heap.size 84 1 v1 (joinL rs E p q).length us1/\Qab w' w.heap.size us1 (joinL rs E p q)/\Below w.heap.size w w':=by
 have bx:=mkF;have az:=Hk (fun W (U:Below w.heap.size w W)=>Qa2 vr rs cs.length W (hr.below U) hl h1 (by omega) ax);have a5:=Qap hp;have bd:=Qap hq;have a1:=Hk (fun(v:Value) W (U:Below w.heap.size w W) (hv:Qch W v rs)=>QkL v al rs E cs.length I.length p q W hv (au.below U) hl aH h1 (by omega) aI (by omega) a5 bd ax aN);obtain⟨b1,o1,J,rfl,aQ,af⟩:=QbI hc h1;obtain⟨b2,o2,K,rfl,aR,ai⟩:=QbI aB aI;have aA:Hid (∀(v:Value) (nm:ByteArray) (k:Int) (W:World),Below w.heap.size w W->(v=.slice (some ⟨b1,o1,none⟩) cs.length J/\nm=x/\k=(p:Int)\/v=.slice (some ⟨b2,o2,none⟩) I.length K/\nm=y/\k=(q:Int))->Calls Tryz.prog 133 #[v,.string nm] W fun e w'=>e=.returned (.int .i64 k)/\Below W.heap.size W w'):=by
  refine Hk ?_;rintro v nm k W U (⟨rfl,rfl,rfl⟩|⟨rfl,rfl,rfl⟩)
  ·rw[<-QaN hp];exact QaH b1 o1 cs.length J cs nm W rfl (by omega) (by have:=U.size;omega) (af.below U aQ)
  ·rw[<-QaN hq];exact QaH b2 o2 I.length K I nm W rfl (by omega) (by have:=U.size;omega) (ai.below U aR)
 clear hl aH hc aB af ai hp hq;obtain⟨ra,aZ,rfl,-⟩:=hr;obtain⟨aD,am,rfl,-⟩:=au;have aw:QaC (w.alloc (.cells j.cells 50)) w.heap.size j:=fun k v hk=>by rw[World.cell?_alloc_at _ _ _ _ rfl];exact hk
 have N:=Hk aw;clear aw;unfold Jb.cells at N⊢;rw[M,hj] at N⊢;have aG:=Hk (Ai M hj);clear M hj
 all_goals
  go_enter Tryz.func102,Tryz.ntmps102;go_wp2_with fail
  go_cut [7,8] (fun p v wx=>∃(Z:Nat) (us:List Value),p=.pointer (some ⟨Z,0,none⟩)/\wx.cell? ⟨Z,0,none⟩=some (.slice (some ⟨b1,o1,none⟩) cs.length J)/\Z<wx.heap.size/\wx.ownsRow (w.heap.size+1) 84 1 v rs.length us/\Qab wx (w.heap.size+1) us rs/\QaC wx w.heap.size j/\Below w.heap.size w wx)
  case first=>
   go_region_held3 (fun w'=>w'.cell? ⟨tb,0,none⟩=some (.slice (some ⟨b1,o1,none⟩) cs.length J)/\w'.cell? ⟨tb,1,none⟩=some (.slice ra rs.length aZ))
    (first|(go_keep;done)|exact⟨(World.cell?_setCell_other _ _ _ _ (by intro e;simp at e;try omega)).trans k0,(World.cell?_setCell_other _ _ _ _ (by intro e;simp at e;try omega)).trans k1⟩)
    (first|(go_at_call 137;refine(az.out _ (by first|exact(Qaa _ _).drew|exact(bel_box (Qaa _ _) _).drew)).mono ?_;rintro e w1 ⟨v1,us,rfl,aJ,av,D⟩;have H:=bel_then (show Below w.heap.size w _ from(by first|exact(Qaa _ _).drew|exact(bel_box (Qaa _ _) _).drew)) D;have k0:=cK H O t0;have k1:=cK H O t1;have bz:tb<w1.heap.size:=Nat.lt_of_lt_of_le O H.size;(try(have kb:=(D.cell (p:=⟨w.heap.size+1,0,none⟩) (by simp)).trans (show _=some (Value.slice none 0 0) by simp);have kf:=(D.frozen (p:=⟨w.heap.size+1,0,none⟩) (by simp)).trans (show _=false by simp);have kz:w.heap.size+1<w1.heap.size:=by(have:=D.size;simp at this;omega)))))
   all_goals go_wp2_with fail
   all_goals go_meet
   ·have ak:QaC w1 w.heap.size j:=fun k v hk=>(D.cell (p:=⟨w.heap.size,k,none⟩) (by simp)).trans (by simpa using N.out k v hk)
    exact⟨w1.heap.size,us,rfl,by simp,by simp,(own_mono (by simp) aJ).alloc _,(av.mono (by simp)).below (Qaa _ _),ak.below (Qaa _ _) (by have:=D.size;simp at this;omega),bel_box H _⟩
   ·have ak:QaC w1 w.heap.size j:=fun k v hk=>(D.cell (p:=⟨w.heap.size,k,none⟩) (by simp;omega)).trans (by simpa using N.out k v hk)
    exact⟨w.heap.size+1,us,rfl,World.cell?_setCell_same _ _ _ kb,by simpa using kz,own_mono (by simp) (ownsRow_setCell_below aJ (by simp) _),(Qab.set av (by simp)).mono (by simp),fun k v hk=>(World.cell?_setCell_other _ _ _ _ (by intro e;simp at e)).trans (ak k v hk),H.setCell (by show w.heap.size<=w.heap.size+1;omega) _⟩
  case rest=>
   obtain⟨Z,us,rfl,bg,aS,hv,hH,hJ,F⟩:=hcut;have bw:=F.size;have j1:wc.cell? ⟨w.heap.size,1,none⟩=some (.int .i64 7):=by have:=hJ 1 (.int .i64 j.code) rfl;rw[aG.out.1] at this;exact this
   have j4:wc.cell? ⟨w.heap.size,4,none⟩=some (.slice (some ⟨h,no,none⟩) 2 cc):=by have:=hJ 4 j.cols rfl;rw[aG.out.2] at this;exact this
   have aY:=hJ.lt;have z2:=cK F O t2;have z3:=cK F O t3;have z4:=cK F aE s0;have z5:=cK F aE s1;have KX:Hid (∀V,Below wc.heap.size wc V->V.cell? ⟨tb,3,none⟩=some (.slice aD E.length am)/\V.cell? ⟨Z,0,none⟩=some (.slice (some ⟨b1,o1,none⟩) cs.length J)/\V.cell? ⟨w.heap.size,4,none⟩=some (.slice (some ⟨h,no,none⟩) 2 cc)/\V.cell? ⟨h,no,none⟩=some (.string x)/\V.cell? ⟨tb,2,none⟩=some (.slice (some ⟨b2,o2,none⟩) I.length K)/\V.cell? ⟨h,no+1,none⟩=some (.string y)):=Hk (fun V hV=>⟨cK hV (by omega) z3,cK hV aS bg,cK hV aY j4,cK hV (by omega) z4,cK hV (by omega) z2,cK hV (by omega) z5⟩);have HB:=Hk (Ai F (QgY hv hH));obtain⟨xa,xc,rfl⟩:=own_slice hv;clear F hv hH hJ az N t0 t1 t2 t3 s0 s1;have ah:=Hk (Ai (show Below wc.heap.size wc wc.drew from(Below.refl _ _).drew) HB.out.1.drew);go_wp2_with fail
   go_region_held3 (fun V=>V.cell? ⟨tb,3,none⟩=some (.slice aD E.length am)/\V.cell? ⟨Z,0,none⟩=some (.slice (some ⟨b1,o1,none⟩) cs.length J)/\V.cell? ⟨w.heap.size,4,none⟩=some (.slice (some ⟨h,no,none⟩) 2 cc)/\V.cell? ⟨h,no,none⟩=some (.string x)/\V.cell? ⟨tb,2,none⟩=some (.slice (some ⟨b2,o2,none⟩) I.length K)/\V.cell? ⟨h,no+1,none⟩=some (.string y))
    (first|(go_keep;done)|exact KX.out _ a7.out|exact KX.out _ ag.out|exact KX.out _ aL.out)
    (first|(go_at_call 147;refine(a1.out _ _ aa.out (HB.out.2.below ag.out)).mono ?_;rintro e w3 ⟨v3,a9,rfl,bh,bi,aF⟩;have a7:=Hk (bel_then ag.out aF);have a6:=Hk (bel_then aa.out aF))|(go_at_call 133;refine(aA.out _ _ _ _ aK.out (by first|exact Or.inl ⟨rfl,rfl,rfl⟩|exact Or.inr ⟨rfl,rfl,rfl⟩)).mono ?_;rintro e w2 ⟨rfl,aC⟩;have ag:=Hk (bel_then aL.out aC);have aa:=Hk (bel_then aK.out aC))|(go_at_call 133;refine(aA.out _ _ _ _ ah.out.2 (by first|exact Or.inl ⟨rfl,rfl,rfl⟩|exact Or.inr ⟨rfl,rfl,rfl⟩)).mono ?_;rintro e w1 ⟨rfl,D⟩;have aL:=Hk (bel_then ah.out.1 D);have aK:=Hk (bel_then ah.out.2 D)))
   go_wp2
   go_ret3
   exact⟨_,a9,rfl,own_mono (by have:=aa.out.size;omega) bh,bi.mono (by have:=aa.out.size;omega),a6.out⟩
def QbV (w:World) (v:Value) (x y:ByteArray):Prop:=∃nb no cc,v=.slice (some ⟨nb,no,none⟩) 2 cc/\nb<w.heap.size/\w.cell? ⟨nb,no,none⟩=some (.string x)/\w.cell? ⟨nb,no+1,none⟩=some (.string y)
theorem QbV.below {w w':World} {v:Value} {x y:ByteArray} (h:QbV w v x y) (E:Below w.heap.size w w'):QbV w' v x y:=by
 obtain⟨F,no,H,e,D,J,I⟩:=h;exact⟨F,no,H,e,Nat.lt_of_lt_of_le D E.size,cK E D J,cK E D I⟩
def pOf (cs:List Cl) (x:ByteArray):Nat:=(Qaq cs x.data.toList).getD 0
def Qb6 (t u:Tb) (x y:ByteArray):Int:=if Qae t.1 t.2=false\/Qae u.1 u.2=false then 1 else if QaY t.1 u.1 x y≠0 then QaY t.1 u.1 x y else if 60<(joinL t.2 u.2 (pOf t.1 x) (pOf u.1 y)).length then 12 else 0
theorem Qd8 {cs D:List Cl} {x y:ByteArray} (h:QaY cs D x y=0):Qaq cs x.data.toList=some (pOf cs x)/\Qaq D y.data.toList=some (pOf D y):=by
 unfold QaY at h;unfold pOf;split at h
 ·rename_i p q E F
  rw[E,F];exact⟨rfl,rfl⟩
 ·cases h
theorem QhS {W:World} {B g V:Nat} {us:List Value} {cs y:List Cl} (J:W.ownsRow B 51 1 (.slice (some ⟨g,0,none⟩) 2 V) 2 us) (hh:QaE W us [cs,y]) (h1:1<=cs.length) (ac:1<=y.length):
 ∃b o c D F E,W.cell? ⟨g,0,none⟩=some (.slice (some ⟨b,o,none⟩) cs.length c)/\W.cell? ⟨g,0+1,none⟩=some (.slice (some ⟨D,F,none⟩) y.length E)/\g<W.heap.size/\b<W.heap.size/\D<W.heap.size/\Qau W b o cs/\Qau W D F y/\y.length<=E/\(∀z∈cs++y,z.1.size<=maxLen):=by
 obtain⟨u,hu,hc⟩:=hh.2 0 (by simp);obtain⟨u',Z,H⟩:=hh.2 1 (by simp);obtain⟨-,-,-,-,hs,-⟩:=id hc;obtain⟨a2,c2,e2,I,O,-⟩:=id H;obtain⟨b,o,c,rfl,N,U⟩:=QbI hc h1;obtain⟨D,F,E,rfl,K,M⟩:=QbI H ac;simp only[Value.slice.injEq] at e2;refine⟨b,o,c,D,F,E,QcC J 0 _ (by decide) hu,QcC J 1 _ (by decide) Z,(J.lt g rfl).2,N,K,U,M,by rw[e2.2.2];exact I,fun z hz=>?_⟩;rcases List.mem_append.1 hz with h|h
 ·exact hs z h
 ·exact O z h
theorem Qqt {t u:Tb} {x y:ByteArray} {j:Jb} (I:j.code=7) (hr:Qae t.1 t.2=true) (Z:Qae u.1 u.2=true) {W:World} {B g E:Nat} {us:List Value} (hN:QbV W j.cols x y) (ho:W.ownsRow B 51 1 (.slice (some ⟨g,0,none⟩) 2 E) 2 us) (hh:QaE W us [t.1,u.1]):
 ∀D,Below W.heap.size W D->Calls Tryz.prog 96 #[.agg j.cells,.slice (some ⟨g,0,none⟩) 2 E] D fun e w'=>e=.returned (QbN (QaY t.1 u.1 x y))/\Below D.heap.size D w':=by
 obtain⟨K,au,av,ar⟩:=Qan hr;obtain⟨O,ay,aw,ax⟩:=Qan Z;obtain⟨b,o,c,b',o',c',U,af,H,J,F,ac,N,M,ad⟩:=QhS ho hh K O;intro D h;refine QgB g 0 E b o t.1.length c b' o' u.1.length c' j _ D I (Nat.lt_of_lt_of_le H h.size) (cK h H U) (cK h H af) (fun V hV=>?_);have hV':=bel_then h hV;obtain⟨nb,no,cc,e,hl,s0,s1⟩:=hN.below hV';exact QjD b o t.1.length c b' o' u.1.length c' nb no cc t.1 u.1 x y j V e hl s0 s1 rfl K (by omega) (Nat.lt_of_lt_of_le J hV'.size) (ac.below hV' J) rfl (by omega) M (Nat.lt_of_lt_of_le F hV'.size) (N.below hV' F) ad
theorem QhT {t u:Tb} {x y:ByteArray} {j:Jb} {w:World} (oa:Option Addr) (U:Nat) (h:j.code=7) (K:j.outs=.slice oa 1 U) (hN:QbV w j.cols x y) (hr:Qae t.1 t.2=true) (I:Qae u.1 u.2=true) (he:QaY t.1 u.1 x y=0):
 ∀W B g D us,Below w.heap.size w W->W.ownsRow B 51 1 (.slice (some ⟨g,0,none⟩) [t,u].length D) [t,u].length us->QaE W us ([t,u].map (·.1))->Calls Tryz.prog 59 #[.agg j.cells,.slice (some ⟨g,0,none⟩) [t,u].length D] W fun e w'=>∃v us,e=.returned (.tuple #[v,.nilIface])/\w'.ownsRow W.heap.size 51 1 v 1 us/\Qbk w' W.heap.size us (Qb9 t.1 u.1 (pOf u.1 y))/\Below W.heap.size W w':=by
 obtain⟨ae,ar,av,aq⟩:=Qan hr;obtain⟨N,ay,aw,ax⟩:=Qan I;have ad:Qa3 j.code=(((2:Nat):Int),((1:Nat):Int)):=by rw[h];rfl
 intro W B g D us Z ho hh;obtain⟨b,o,c,b',o',c',O,ah,F,H,E,V,M,J,au⟩:=QhS ho hh ae N;refine cols_ok _ oa D U j 2 1 (Qb9 t.1 u.1 (pOf u.1 y)) W K ad (by decide) (by decide) (fun W' hW'=>?_) (fun W' hW'=>?_)
 ·have:=Qqt h hr I (hN.below Z) ho hh W' hW';rw[he,QeK] at this;exact this
 ·obtain⟨nb,no,cc,e,hl,s0,s1⟩:=(hN.below Z).below hW';exact QeQ g 0 D b o c b' o' c' nb no cc (pOf u.1 y) t.1 u.1 y j W' h e hl s1 (Nat.lt_of_lt_of_le F hW'.size) (cK hW' F O) (cK hW' F ah) (Qd8 he).2 (by omega) (Nat.lt_of_lt_of_le H hW'.size) (V.below hW' H) (by omega) J (Nat.lt_of_lt_of_le E hW'.size) (M.below hW' E)
theorem QhU {tb tcap:Nat} {t u:Tb} {x y:ByteArray} {F:Value} {j:Jb} {w:World} (I:j.code=7) (hN:QbV w j.cols x y) (O:QaZ w tb 0 [t,u]) (D:tb<w.heap.size) (aa:w.cell? ⟨tb,3,none⟩=some F) (U:Qch w F u.2) (hr:Qae t.1 t.2=true) (N:Qae u.1 u.2=true) (he:QaY t.1 u.1 x y=0):
 ∀W,Below w.heap.size w W->Calls Tryz.prog 102 #[.agg j.cells,.slice (some ⟨tb,0,none⟩) [t,u].length tcap] W fun e w'=>∃H v2 E us2,e=.returned (.tuple #[H,v2,.nilIface])/\w'.ownsRow W.heap.size 84 1 H (joinL t.2 u.2 (pOf t.1 x) (pOf u.1 y)).length E/\Qab w' W.heap.size E (joinL t.2 u.2 (pOf t.1 x) (pOf u.1 y))/\w'.ownsRow W.heap.size 84 1 v2 ([]:List (List Vl)).length us2/\Qab w' W.heap.size us2 []/\Below W.heap.size W w':=by
 obtain⟨ac,ax,aA,K⟩:=Qan hr;obtain⟨J,az,aB,M⟩:=Qan N;obtain⟨hp,hq⟩:=Qd8 he;intro W h;obtain⟨vc,vr,c0,c1,hc,V⟩:=O 0 (by simp);obtain⟨ab,ay,c2,c3,Z,ah⟩:=O 1 (by simp);obtain⟨nb,no,cc,e,hl,s0,s1⟩:=hN.below h;refine(Qi1 tb tcap nb no cc (pOf t.1 x) (pOf u.1 y) vc vr ab F t.1 u.1 t.2 u.2 x y j W I e hl s0 s1 hp hq (Nat.lt_of_lt_of_le D h.size) ((h.cell (p:=⟨tb,0,none⟩) D).trans (by simpa using c0)) ((h.cell (p:=⟨tb,1,none⟩) D).trans (by simpa using c1)) ((h.cell (p:=⟨tb,2,none⟩) D).trans (by simpa using c2)) (cK h D aa) (hc.below h) (V.below h) (Z.below h) (U.below h) M (by omega) J (by omega) ac (by omega) K (by omega)).mono ?_;rintro e w' ⟨H,E,h1,h2,h3,hb⟩;exact⟨H,.slice none 0 0,E,[],h1,h2,h3,World.ownsRow_nil _ _ _ _,Qab.nil _ _,hb⟩
theorem Qi2 (tb tcap:Nat) (t u:Tb) (x y:ByteArray) (J:Value) (j:Jb) (K:Option Addr) (M:Nat) (w:World) (D:j.code=7) (F:j.outs=.slice K 1 M) (N:QbV w j.cols x y) (I:QaZ w tb 0 [t,u]) (E:tb<w.heap.size) (U:w.cell? ⟨tb,3,none⟩=some J) (aa:Qch w J u.2) (O:Qb6 t u x y≠0):
 Calls Tryz.prog 61 #[.agg j.cells,.slice (some ⟨tb,0,none⟩) 2 tcap] w fun e w'=>e=.returned (.tuple #[.slice none 0 0,QbN (Qb6 t u x y)])/\Below w.heap.size w w':=by
 have Z:Qa3 j.code=(((2:Nat):Int),((1:Nat):Int)):=by rw[D];rfl
 by_cases h1:Qae t.1 t.2=false\/Qae u.1 u.2=false
 ·rw[show Qb6 t u x y=1 by unfold Qb6;rw[if_pos h1]];refine QhI tb 0 tcap [t,u] j w I E (by simp) ?_;rcases h1 with h|h
  ·exact⟨t,by simp,h⟩
  ·exact⟨u,by simp,h⟩
 ·have H:Qae t.1 t.2=true:=by
   cases g:Qae t.1 t.2 with
   |true=>rfl
   |false=>exact absurd (Or.inl g) h1
  have hr':Qae u.1 u.2=true:=by
   cases g:Qae u.1 u.2 with
   |true=>rfl
   |false=>exact absurd (Or.inr g) h1
  by_cases he:QaY t.1 u.1 x y=0
  ·by_cases hf:60<(joinL t.2 u.2 (pOf t.1 x) (pOf u.1 y)).length
   ·rw[show Qb6 t u x y=12 by unfold Qb6;rw[if_neg h1,if_neg (by simpa using he),if_pos hf]];exact QlQ tb 0 tcap [t,u] j w I E (by simp) (by simp) (QcH H hr') _ 1 (joinL t.2 u.2 (pOf t.1 x) (pOf u.1 y)) [] hf (QhT K M D F N H hr' he) (QhU D N I E U aa H hr' he)
   ·exfalso;apply O;unfold Qb6;rw[if_neg h1,if_neg (by simpa using he),if_neg hf]
  ·rw[show Qb6 t u x y=QaY t.1 u.1 x y by unfold Qb6;rw[if_neg h1,if_pos he]];refine QhJ tb 0 tcap [t,u] j w I E (by simp) (by simp) (QcH H hr') _ he ?_;intro W B g V us hW ho hh;exact Qdq _ K V M j 2 1 _ W F Z (by decide) he (Qqt D H hr' (N.below hW) ho hh)
theorem QjE {t u:Tb} {x y:ByteArray} (h:Qb6 t u x y=0):Qae t.1 t.2=true/\Qae u.1 u.2=true/\QaY t.1 u.1 x y=0/\(joinL t.2 u.2 (pOf t.1 x) (pOf u.1 y)).length<=60:=by
 unfold Qb6 at h;split at h
 ·cases h
 ·rename_i E
  split at h
  ·rename_i D;exact absurd h D
  ·rename_i D
   split at h
   ·cases h
   ·rename_i F
    refine⟨?_,?_,by simpa using D,by omega⟩
    ·cases g:Qae t.1 t.2 with
     |true=>rfl
     |false=>exact absurd (Or.inl g) E
    ·cases g:Qae u.1 u.2 with
     |true=>rfl
     |false=>exact absurd (Or.inr g) E
theorem Qn9 {cs y:List Cl} {k:Nat} (E:∀z∈cs,z.1.size<=maxLen) (D:∀z∈y,z.1.size<=maxLen):∀z∈Qb9 cs y k,z.1.size<=maxLen:=by
 intro z h;unfold Qb9 at h;rw[List.mem_append,List.mem_append] at h;rcases h with (h|h)|h
 ·exact E z h
 ·exact D z (List.mem_of_mem_take h)
 ·exact D z (List.mem_of_mem_drop h)
theorem QkM (tb tcap:Nat) (t u:Tb) (x y:ByteArray) (F:Value) (j:Jb) (V:Option Addr) (M:Nat) (w:World) (h:j.code=7) (J:j.outs=.slice V 1 M) (Z:QbV w j.cols x y) (E:QaZ w tb 0 [t,u]) (H:tb<w.heap.size) (U:w.cell? ⟨tb,3,none⟩=some F) (N:Qch w F u.2) (K:Qb6 t u x y=0):
 Calls Tryz.prog 61 #[.agg j.cells,.slice (some ⟨tb,0,none⟩) 2 tcap] w fun e w'=>∃g c,e=.returned (.tuple #[.slice (some ⟨g,0,none⟩) 1 c,.nilIface])/\w.heap.size<=g/\g<w'.heap.size/\QbR w' w.heap.size g [(Qb9 t.1 u.1 (pOf u.1 y),joinL t.2 u.2 (pOf t.1 x) (pOf u.1 y))]/\Below w.heap.size w w':=by
 obtain⟨I,D,he,hf⟩:=QjE K;obtain⟨vc,vr,c0,c1,hc,ad⟩:=E 0 (by simp);obtain⟨af,ae,c2,c3,O,aa⟩:=E 1 (by simp);exact Qd0 tb 0 tcap [t,u] j w E H (by simp) (by simp) (QcH I D) (Qb9 t.1 u.1 (pOf u.1 y)) (joinL t.2 u.2 (pOf t.1 x) (pOf u.1 y)) [] hf (Qn9 (Qbp hc) (Qbp O)) (QhT V M h J Z I D he) (QhU h Z E H U N I D he)
abbrev Gr:=Vl×Int
def Qas (gs:List Gr):List Value:=gs.flatMap fun g=>[.int .i64 g.1.1,.int .i64 g.1.2.1,.string g.1.2.2,.int .i64 g.2]
theorem Tryz.infoGrp:(Tryz.prog.info? 254).map (fun i=>(i.zero,i.size,i.bytes))=some (some (.agg #[.int .i64 0,.int .i64 0,.string ⟨#[]⟩,.int .i64 0]),4,40):=by kernel_rfl
theorem QbG (h:List Gr):(Qas h).length=h.length*4:=by
 induction h with
 |nil=>rfl
 |cons c r ih=>simp only[Qas,List.flatMap_cons,List.length_append,List.length_cons,List.length_nil] at ih⊢;omega
theorem QaJ (a b:List Gr):Qas (a++b)=Qas a++Qas b:=by simp[Qas]
def stepG (p q:Nat) (gs:List Gr) (r:List Vl):List Gr:=
 match gs.getLast? with
 |none=>[(vAt r p,(vAt r q).2.1)]
 |some g=>if g.1=vAt r p then gs.dropLast++[(g.1,g.2+(vAt r q).2.1)] else gs++[(vAt r p,(vAt r q).2.1)]
def Qeu (p q:Nat) (rs:List (List Vl)):List Gr:=rs.foldl (stepG p q) []
def QaA (gs:List Gr):List (List Vl):=gs.map fun g=>[g.1,(1,g.2,⟨#[]⟩)]
theorem Qd9 {p q:Nat} {y:List Gr} {r:List Vl} (h:∀g,y.getLast? =some g->g.1≠vAt r p):stepG p q y r=y++[(vAt r p,(vAt r q).2.1)]:=by
 unfold stepG
 cases e:y.getLast? with
 |none=>rw[List.getLast?_eq_none_iff] at e;subst e;rfl
 |some g=>simp only[];rw[if_neg (h g e)]
theorem Qme {p q:Nat} {y:List Gr} {g:Gr} {r:List Vl} (h:g.1=vAt r p):stepG p q (y++[g]) r=y++[(g.1,g.2+(vAt r q).2.1)]:=by
 unfold stepG;simp[h]
theorem Qmf (p q:Nat) (h:List Gr) (r:List Vl):(stepG p q h r).length<=h.length+1:=by
 unfold stepG
 cases e:h.getLast? with
 |none=>simp
 |some g=>
  simp only[];split
  ·simp
  ·simp
theorem Qpi {w:World} {B:Nat} {D:List Gr} {g:Gr} {c:Nat} {a:Option Addr} (h:w.ownsRow B 254 4 (.slice a (D.length+1) c) (D.length+1) (Qas (D++[g]))):∃b,a=some ⟨b,0,none⟩/\B<=b/\b<w.heap.size/\w.cell? ⟨b,D.length*4,none⟩=some (.int .i64 g.1.1)/\w.cell? ⟨b,D.length*4+1,none⟩=some (.int .i64 g.1.2.1)/\w.cell? ⟨b,D.length*4+2,none⟩=some (.string g.1.2.2)/\w.cell? ⟨b,D.length*4+3,none⟩=some (.int .i64 g.2)/\∀k,w.frozen? ⟨b,k,none⟩=false:=by
 have K:∀H,a=some ⟨H,0,none⟩->∀k,w.frozen? ⟨H,k,none⟩=false:=by
  intro H I k;obtain⟨-,⟨-,h0⟩|⟨g',U,Z,E,-,O,-⟩⟩:=h
  ·omega
  ·rw[I] at E;simp only[Value.slice.injEq,Option.some.injEq,Addr.mk.injEq] at E;obtain⟨⟨rfl,-⟩,-,-⟩:=E;simp[World.frozen?,O]
 obtain⟨b,c',e,V,M,hc⟩:=QcD h (by omega);simp only[Value.slice.injEq] at e;have F:∀k (J:k<4) y,([Value.int .i64 g.1.1,.int .i64 g.1.2.1,.string g.1.2.2,.int .i64 g.2])[k]? =some y->w.cell? ⟨b,D.length*4+k,none⟩=some y:=by
  intro k J y N;have:=hc (D.length*4+k) y (by rw[QaJ,List.getElem?_append_right (by rw[QbG];omega),QbG];simpa [Qas] using N);simpa using this
 exact⟨b,e.1,V,M,F 0 (by omega) _ rfl,F 1 (by omega) _ rfl,F 2 (by omega) _ rfl,F 3 (by omega) _ rfl,K b e.1⟩
theorem Qmg {w:World} {B b c:Nat} {y:List Gr} {g:Gr} (h:w.ownsRow B 254 4 (.slice (some ⟨b,0,none⟩) (y.length+1) c) (y.length+1) (Qas (y++[g]))) (t:Int):(w.setCell ⟨b,y.length*4+3,none⟩ (.int .i64 t)).ownsRow B 254 4 (.slice (some ⟨b,0,none⟩) (y.length+1) c) (y.length+1) (Qas (y++[(g.1,t)])):=by
 have e:Qas (y++[(g.1,t)])=(Qas (y++[g])).set (y.length*4+3) (.int .i64 t):=by
  rw[QaJ,QaJ,List.set_append_right _ _ (by rw[QbG];omega),QbG,show y.length*4+3-y.length*4=3 by omega];rfl
 rw[e];exact(h.stored _ _).1
theorem QcJ (p q:Nat) (rs:List (List Vl)) (k:Nat) (h:k<rs.length):Qeu p q (rs.take (k+1))=stepG p q (Qeu p q (rs.take k)) rs[k]:=by
 unfold Qeu;rw[List.take_succ_eq_append_getElem h,List.foldl_append];rfl
theorem QfG (p q:Nat) (rs:List (List Vl)):(Qeu p q rs).length<=rs.length:=by
 have y:∀(l:List (List Vl)) (acc:List Gr),(l.foldl (stepG p q) acc).length<=acc.length+l.length:=by
  intro l
  induction l with
  |nil=>intro acc;simp
  |cons r l ih=>
   intro acc;have E:=ih (stepG p q acc r);have D:=Qmf p q acc r;simp only[List.foldl_cons,List.length_cons];omega
 have h:=y rs [];rw[List.length_nil,Nat.zero_add] at h;exact h
theorem QfH (p q:Nat) (rs:List (List Vl)) (I:∀r∈rs,Qaz (vAt r q).2.1):∀g∈Qeu p q rs,-(1000000000*(rs.length:Int))<=g.2/\g.2<=1000000000*(rs.length:Int):=by
 have E:∀(l:List (List Vl)) (acc:List Gr) (N:Int),0<=N->(∀r∈l,Qaz (vAt r q).2.1)->(∀g∈acc,-(1000000000*N)<=g.2/\g.2<=1000000000*N)->∀g∈l.foldl (stepG p q) acc,-(1000000000*(N+(l.length:Int)))<=g.2/\g.2<=1000000000*(N+(l.length:Int)):=by
  intro l
  induction l with
  |nil=>intro acc N _ _ h g D;simpa using h g D
  |cons r l ih=>
   intro acc N K H h g D;have F:=H r (by simp);unfold Qaz at F;have h':=ih (stepG p q acc r) (N+1) (by omega) (fun x hx=>H x (by simp[hx])) (fun g' y=>by
    unfold stepG at y
    cases e:acc.getLast? with
    |none=>
     rw[e] at y;simp at y;rw[y];simp only;omega
    |some g0=>
     rw[e] at y;simp only[] at y;have J:=h g0 (List.mem_of_getLast? e);split at y
     ·rcases List.mem_append.1 y with y|y
      ·have:=h g' ((List.dropLast_sublist _).subset y);omega
      ·simp at y;rw[y];simp only;omega
     ·rcases List.mem_append.1 y with y|y
      ·have:=h g' y;omega
      ·simp at y;rw[y];simp only;omega) g (by simpa using D)
   simp only[List.length_cons];push_cast;omega
 intro g D;have:=E rs [] 0 (by omega) I (fun g D=>by simp at D) g D;simpa using this
end Go.Proofs.YtjlgejennghhlaaGreatDoor
