import Derived.Test.YtjlgejennghhlaaGreatDoorR01
import Derived.Test.YtjlgejennghhlaaGreatDoorR33
set_option linter.unusedSimpArgs false
set_option linter.unusedVariables false
set_option linter.unusedSectionVars false
set_option maxRecDepth 1000000
set_option maxHeartbeats 16000000
namespace Go.Proofs.YtjlgejennghhlaaGreatDoor
open Go.RowKit
theorem Qds {w:World} {B n:Nat} {e:TypeId} {z:Nat} {v:Value} {xs:List Value} (h:w.ownsRow B e z v n xs):v.ownBlock≠some w.heap.size:=fun he=>by have:=(h.lt _ he).2;omega
theorem QcS {w:World} {B n k:Nat} {e:TypeId} {z:Nat} {v:Value} {xs:List Value} (h:w.ownsRow B e z v n xs) (y:k<B):v.ownBlock≠some k:=fun he=>by have:=(h.lt _ he).1;omega
theorem QfN (E F D I b o n c:Nat) (j:Jb) (r:Int) (w:World) (h:j.code=8) (M:0<D) (K:E<w.heap.size) (O:w.cell? ⟨E,F,none⟩=some (.slice (some ⟨b,o,none⟩) n c))
 (y:∀W,Below w.heap.size w W->Calls Tryz.prog 129 #[.agg j.cells,.slice (some ⟨b,o,none⟩) n c] W fun e w'=>e=.returned (QbN r)/\Below W.heap.size W w'):
 Calls Tryz.prog 96 #[.agg j.cells,.slice (some ⟨E,F,none⟩) D I] w fun e w'=>e=.returned (QbN r)/\Below w.heap.size w w':=by
 unfold Jb.cells at y⊢;rw[h] at y⊢;generalize QbN r=ev at*;have J:=Hk y;have htk':(0:Int)<(D:Int):=by omega
 clear y h;go_enter Tryz.func96,Tryz.ntmps96;go_wp2_with (go_at_call 129;refine(J.out _ (Qaa _ _)).mono ?_;rintro e N ⟨rfl,H⟩);go_ret;exact⟨rfl,bel_then (Qaa _ _) H⟩
theorem QcT (O ho V aq b o n c:Nat) (cs:List Cl) (y:List ByteArray) (j:Jb) (w:World) (H:j.code=8) (aD:0<V) (aE:O<w.heap.size) (h0:w.cell? ⟨O,ho,none⟩=some (.slice (some ⟨b,o,none⟩) n c)) (hs:Qcm w j.cols y) (he:QaR cs y=0)
 (hn:cs.length=n) (ag:n<=100) (J:b<w.heap.size) (hc:Qau w b o cs):
 Calls Tryz.prog 97 #[.agg j.cells,.slice (some ⟨O,ho,none⟩) V aq] w fun e w'=>∃u,e=.returned u/\w'.ownsRow w.heap.size 64 2 u (Qbd (Qak cs y) cs).length (Qal (Qbd (Qak cs y) cs))/\Below w.heap.size w w':=by
 obtain⟨l0,l6,E⟩:=QcF he;obtain⟨ca,cc,hj,Z,ak,F⟩:=hs;rcases F with h|⟨nb,no,rfl,hl,F⟩
 ·rw[h] at l0;simp at l0
 have K:(Qak cs y).length=y.length:=by simp[Qak]
 have hT:=fun W (D:Below w.heap.size w W)=>Qd1 nb no cc b o n c y.length y (Qak cs y) cs W rfl (by omega) (by have:=D.size;omega) (F.below D hl) hn ag (by have:=D.size;omega) (hc.below D J) K (Qd3 E)
 have U:=fun W (D:Below w.heap.size w W) g gc (hg:g<W.heap.size) (hi:QcE W g 0 (Qak cs y))=>Qgu b o c g 0 gc cs (Qak cs y) W (hc.below D J) (by have:=D.size;omega) hi hg (QcG E) (by omega) (by omega)
 rw[hn] at U;rw[show(Qbd (Qak cs y) cs).length=(Qak cs y).length by simp[Qbd]];unfold Jb.cells;rw[hj];obtain⟨code,N⟩:∃k,j.code=k:=⟨_,rfl⟩;rw[N] at H⊢;clear N;subst H;have M:0<(Qak cs y).length:=by omega
 generalize ae:Qak cs y=ks at*;have HT:=Hk hT;have HQ:=Hk U;have htk':(0:Int)<(V:Int):=by omega
 have HK:=Hk M;clear hT U hn hc hj F E K l0 l6 he ae M ak Z;go_enter Tryz.func97,Tryz.ntmps97;go_wp2_with (first|(go_at_call 131;refine(HT.out _ (Qaa _ _)).mono ?_;rintro e w1 ⟨v1,rfl,ai,I⟩;obtain⟨g,gc,rfl,aF,ap,ad⟩:=QdL ai HK.out)|(go_at_call 130;refine(HQ.out _ (bel_then (Qaa _ _) I) _ _ ap ad).mono ?_;rintro e w2 ⟨v2,rfl,ao,al⟩));go_ret;exact⟨_,rfl,own_mono (by have:=I.size;simp at this;omega) ao,bel_then (bel_then (Qaa _ _) I) al⟩
theorem grouped_ok (v:Value) (us:List Value) (rs:List (List Vl)) (B m p q:Nat) (w:World) (U:w.ownsRow B 84 1 v rs.length us) (V:Qab w B us rs) (O:∀r∈rs,r.length=m) (h1:1<=m) (K:m<=100) (F:rs.length<=100) (J:p<m) (N:q<m) (E:∀r∈rs,Qaz (vAt r q).2.1) (I:∀r∈rs,∀x∈r,x.2.2.size<=maxLen) (H:B<=w.heap.size) (Z:∀g∈Qeu p q (Qa9 [p] rs),Qaz g.2):
 Calls Tryz.prog 148 #[v,.int .i64 p,.int .i64 q,.string ⟨#[115,117,109]⟩] w fun e w'=>Below B w w'/\Kept v w w'/\∃D y,e=.returned (.tuple #[D,.nilIface])/\w'.ownsRow B 84 1 D (QaA (Qeu p q (Qa9 [p] rs))).length y/\Qab w' B y (QaA (Qeu p q (Qa9 [p] rs))):=by
 refine(QfJ v us rs B m p q w U V O h1 K F J N E I H).mono ?_;rintro e w' ⟨a,b,⟨-,D,y,M,c,d⟩|⟨h,-⟩⟩
 ·exact⟨a,b,D,y,M,c,d⟩
 ·exact absurd Z h
theorem grouped_bad (v:Value) (us:List Value) (rs:List (List Vl)) (B m p q:Nat) (w:World) (K:w.ownsRow B 84 1 v rs.length us) (O:Qab w B us rs) (M:∀r∈rs,r.length=m) (U:1<=m) (I:m<=100) (D:rs.length<=100) (H:p<m) (J:q<m) (y:∀r∈rs,Qaz (vAt r q).2.1) (F:∀r∈rs,∀x∈r,x.2.2.size<=maxLen) (E:B<=w.heap.size) (N:¬∀g∈Qeu p q (Qa9 [p] rs),Qaz g.2):
 Calls Tryz.prog 148 #[v,.int .i64 p,.int .i64 q,.string ⟨#[115,117,109]⟩] w fun e w'=>Below B w w'/\Kept v w w'/\e=.returned (.tuple #[.slice none 0 0,QbN 2]):=by
 refine(QfJ v us rs B m p q w K O M U I D H J y F E).mono ?_;rintro e w' ⟨a,b,⟨h,-⟩|⟨-,h⟩⟩
 ·exact absurd h N
 ·exact⟨a,b,h⟩
theorem rowsOf_group_ok (tb H tk tcap h no cc p q:Nat) (vc vr:Value) (cs:List Cl) (rs:List (List Vl)) (x y:ByteArray) (j:Jb) (w:World) (M:j.code=8) (ap:j.op=⟨#[115,117,109]⟩) (hj:j.cols=.slice (some ⟨h,no,none⟩) 2 cc) (aD:h<w.heap.size) (s0:w.cell? ⟨h,no,none⟩=some (.string x)) (s1:w.cell? ⟨h,no+1,none⟩=some (.string y)) (hp:Qaq cs x.data.toList=some p) (hq:Qaq cs y.data.toList=some q) (bv:0<tk) (ah:tb<w.heap.size) (t0:w.cell? ⟨tb,H,none⟩=some vc) (t1:w.cell? ⟨tb,H+1,none⟩=some vr)
 (hc:Qax w vc cs) (hr:QaG w vr rs) (h1:1<=cs.length) (h6:cs.length<=40) (hl:∀r∈rs,r.length=cs.length) (az:rs.length<=100) (aq:∀r∈rs,Qaz (vAt r q).2.1) (aw:∀r∈rs,∀x∈r,x.2.2.size<=maxLen) (hS:∀g∈Qeu p q (Qa9 [p] rs),Qaz g.2):
 Calls Tryz.prog 102 #[.agg j.cells,.slice (some ⟨tb,H,none⟩) tk tcap] w fun e w'=>∃v1 us1,e=.returned (.tuple #[v1,.slice none 0 0,.nilIface])/\w'.ownsRow w.heap.size 84 1 v1 (QaA (Qeu p q (Qa9 [p] rs))).length us1/\Qab w' w.heap.size us1 (QaA (Qeu p q (Qa9 [p] rs)))/\Below w.heap.size w w':=by
 have bw:=mkF;have aA:=Hk (fun W (hW:Below w.heap.size w W)=>Qa2 vr rs cs.length W (hr.below hW) hl h1 (by omega) az);have a2:=Qap hp;have a6:=Qap hq;have aY:=Hk (fun(v:Value) (us:List Value) W (hv:W.ownsRow (w.heap.size+1) 84 1 v rs.length us) (hH:Qab W (w.heap.size+1) us rs) (hs:w.heap.size+1<=W.heap.size)=>grouped_ok v us rs (w.heap.size+1) cs.length p q W hv hH hl h1 (by omega) az a2 a6 aq aw hs hS);obtain⟨J,K,E,rfl,ag,Z⟩:=QbI hc h1;have aB:Hid (∀(v:Value) (nm:ByteArray) (k:Int) (W:World),Below w.heap.size w W->(v=.slice (some ⟨J,K,none⟩) cs.length E/\nm=x/\k=(p:Int)\/v=.slice (some ⟨J,K,none⟩) cs.length E/\nm=y/\k=(q:Int))->Calls Tryz.prog 133 #[v,.string nm] W fun e w'=>e=.returned (.int .i64 k)/\Below W.heap.size W w'):=by
  refine Hk ?_;rintro v nm k W hW (⟨rfl,rfl,rfl⟩|⟨rfl,rfl,rfl⟩)
  ·rw[<-QaN hp];exact QaH J K cs.length E cs nm W rfl (by omega) (by have:=hW.size;omega) (Z.below hW ag)
  ·rw[<-QaN hq];exact QaH J K cs.length E cs nm W rfl (by omega) (by have:=hW.size;omega) (Z.below hW ag)
 have htk':(0:Int)<(tk:Int):=by omega
 clear hl hc Z hp hq aq aw;obtain⟨ra,aW,rfl,-⟩:=hr;have ax:QaC (w.alloc (.cells j.cells 50)) w.heap.size j:=fun k v hk=>by rw[World.cell?_alloc_at _ _ _ _ rfl];exact hk
 have N:=Hk ax;clear ax;unfold Jb.cells at N⊢;rw[M,hj,ap] at N⊢;have ak:=Hk (Ai M (Ai hj ap));clear M hj ap
 all_goals
  go_enter Tryz.func102,Tryz.ntmps102;go_wp2_with fail
  go_cut [7,8] (fun p v wx=>∃(I:Nat) (us:List Value),p=.pointer (some ⟨I,0,none⟩)/\wx.cell? ⟨I,0,none⟩=some (.slice (some ⟨J,K,none⟩) cs.length E)/\I<wx.heap.size/\wx.ownsRow (w.heap.size+1) 84 1 v rs.length us/\Qab wx (w.heap.size+1) us rs/\QaC wx w.heap.size j/\Below w.heap.size w wx/\v.ownBlock≠some I)
  case first=>
   go_region_held3 (fun w'=>w'.cell? ⟨tb,H,none⟩=some (.slice (some ⟨J,K,none⟩) cs.length E)/\w'.cell? ⟨tb,H+1,none⟩=some (.slice ra rs.length aW))
    (first|(go_keep;done)|exact⟨(World.cell?_setCell_other _ _ _ _ (by intro e;simp at e;try omega)).trans k0,(World.cell?_setCell_other _ _ _ _ (by intro e;simp at e;try omega)).trans k1⟩)
    (first|(go_at_call 137;refine(aA.out _ (by first|exact(Qaa _ _).drew|exact(bel_box (Qaa _ _) _).drew)).mono ?_;rintro e w1 ⟨v1,us,rfl,aa,av,D⟩;have F:=bel_then (show Below w.heap.size w _ from(by first|exact(Qaa _ _).drew|exact(bel_box (Qaa _ _) _).drew)) D;have k0:=cK F ah t0;have k1:=cK F ah t1;have bx:tb<w1.heap.size:=Nat.lt_of_lt_of_le ah F.size;(try(have kb:=(D.cell (p:=⟨w.heap.size+1,0,none⟩) (by simp)).trans (show _=some (Value.slice none 0 0) by simp);have kf:=(D.frozen (p:=⟨w.heap.size+1,0,none⟩) (by simp)).trans (show _=false by simp);have kz:w.heap.size+1<w1.heap.size:=by(have:=D.size;simp at this;omega)))))
   all_goals go_wp2_with fail
   all_goals go_meet
   ·have ao:QaC w1 w.heap.size j:=fun k v hk=>(D.cell (p:=⟨w.heap.size,k,none⟩) (by simp)).trans (by simpa using N.out k v hk)
    exact⟨w1.heap.size,us,rfl,by simp,by simp,(own_mono (by simp) aa).alloc _,(av.mono (by simp)).below (Qaa _ _),ao.below (Qaa _ _) (by have:=D.size;simp at this;omega),bel_box F _,Qds aa⟩
   ·have ao:QaC w1 w.heap.size j:=fun k v hk=>(D.cell (p:=⟨w.heap.size,k,none⟩) (by simp;omega)).trans (by simpa using N.out k v hk)
    exact⟨w.heap.size+1,us,rfl,World.cell?_setCell_same _ _ _ kb,by simpa using kz,own_mono (by simp) (ownsRow_setCell_below aa (by simp) _),(Qab.set av (by simp)).mono (by simp),fun k v hk=>(World.cell?_setCell_other _ _ _ _ (by intro e;simp at e)).trans (ao k v hk),F.setCell (by show w.heap.size<=w.heap.size+1;omega) _,QcS aa (by simp)⟩
  case rest=>
   obtain⟨I,us,rfl,a7,al,hv,hH,hJ,U,ae⟩:=hcut;have bu:=U.size;have j1:wc.cell? ⟨w.heap.size,1,none⟩=some (.int .i64 8):=by have:=hJ 1 (.int .i64 j.code) rfl;rw[ak.out.1] at this;exact this
   have j4:wc.cell? ⟨w.heap.size,4,none⟩=some (.slice (some ⟨h,no,none⟩) 2 cc):=by have:=hJ 4 j.cols rfl;rw[ak.out.2.1] at this;exact this
   have j5:wc.cell? ⟨w.heap.size,5,none⟩=some (.string ⟨#[115,117,109]⟩):=by have:=hJ 5 (.string j.op) rfl;rw[ak.out.2.2] at this;exact this
   have au:=hJ.lt;have z4:=cK U aD s0;have z5:=cK U aD s1;have KX:Hid (∀V,Below wc.heap.size wc V->V.cell? ⟨I,0,none⟩=some (.slice (some ⟨J,K,none⟩) cs.length E)/\V.cell? ⟨w.heap.size,4,none⟩=some (.slice (some ⟨h,no,none⟩) 2 cc)/\V.cell? ⟨w.heap.size,5,none⟩=some (.string ⟨#[115,117,109]⟩)/\V.cell? ⟨h,no,none⟩=some (.string x)/\V.cell? ⟨h,no+1,none⟩=some (.string y)):=Hk (fun V hV=>⟨cK hV al a7,cK hV au j4,cK hV au j5,cK hV (by omega) z4,cK hV (by omega) z5⟩);have HB:=Hk (Ai U (Ai hv hH));obtain⟨xa,xc,rfl⟩:=own_slice hv;have KY:Hid (∀V V',Below wc.heap.size wc V->Below (w.heap.size+1) V V'->Kept (.slice xa rs.length xc) V V'->V'.cell? ⟨I,0,none⟩=some (.slice (some ⟨J,K,none⟩) cs.length E)/\V'.cell? ⟨w.heap.size,4,none⟩=some (.slice (some ⟨h,no,none⟩) 2 cc)/\V'.cell? ⟨w.heap.size,5,none⟩=some (.string ⟨#[115,117,109]⟩)/\V'.cell? ⟨h,no,none⟩=some (.string x)/\V'.cell? ⟨h,no+1,none⟩=some (.string y)):=Hk (fun V V' hV hV' hk=>by
    obtain⟨y0,y1,y2,y3,y4⟩:=KX.out V hV;have hs:=hV.size;exact⟨(hk ⟨I,0,none⟩ (Nat.lt_of_lt_of_le al hs) ae).trans y0,cK hV' (by omega) y1,cK hV' (by omega) y2,cK hV' (by omega) y3,cK hV' (by omega) y4⟩)
   clear U hv hH hJ aA N t0 t1 s0 s1 ae;have aj:=Hk (Ai (show Below wc.heap.size wc wc.drew from(Below.refl _ _).drew) HB.out.1.drew);go_wp2_with fail
   go_region_held3 (fun V=>V.cell? ⟨I,0,none⟩=some (.slice (some ⟨J,K,none⟩) cs.length E)/\V.cell? ⟨w.heap.size,4,none⟩=some (.slice (some ⟨h,no,none⟩) 2 cc)/\V.cell? ⟨w.heap.size,5,none⟩=some (.string ⟨#[115,117,109]⟩)/\V.cell? ⟨h,no,none⟩=some (.string x)/\V.cell? ⟨h,no+1,none⟩=some (.string y))
    (first|(go_keep;done)|exact KY.out _ _ O.out aF.out bb.out|exact KX.out _ O.out|exact KX.out _ aH.out)
    (first|(go_at_call 148;refine(aY.out _ us _ (owns_below HB.out.2.1 O.out) (HB.out.2.2.below O.out) (by have:=O.out.size;omega)).mono ?_;rintro e w3 ⟨aE,ay,v3,a4,rfl,aI,aJ⟩;have aF:=Hk aE;have bb:=Hk ay;have aK:=Hk (Ai aI aJ);clear aE ay aI aJ)|(go_at_call 133;refine(aB.out _ _ _ _ aG.out (by first|exact Or.inl ⟨rfl,rfl,rfl⟩|exact Or.inr ⟨rfl,rfl,rfl⟩)).mono ?_;rintro e w2 ⟨rfl,aC⟩;have O:=Hk (bel_then aH.out aC);have a1:=Hk (bel_then aG.out aC))|(go_at_call 133;refine(aB.out _ _ _ _ aj.out.2 (by first|exact Or.inl ⟨rfl,rfl,rfl⟩|exact Or.inr ⟨rfl,rfl,rfl⟩)).mono ?_;rintro e w1 ⟨rfl,D⟩;have aH:=Hk (bel_then aj.out.1 D);have aG:=Hk (bel_then aj.out.2 D)))
   go_wp2
   go_ret3
   exact⟨_,a4,rfl,own_mono (by omega) aK.out.1,aK.out.2.mono (by omega),a1.out.trans (aF.out.mono (Nat.le_succ _))⟩
theorem rowsOf_group_bad (tb H tk tcap h no cc p q:Nat) (vc vr:Value) (cs:List Cl) (rs:List (List Vl)) (x y:ByteArray) (j:Jb) (w:World) (M:j.code=8) (ap:j.op=⟨#[115,117,109]⟩) (hj:j.cols=.slice (some ⟨h,no,none⟩) 2 cc) (aD:h<w.heap.size) (s0:w.cell? ⟨h,no,none⟩=some (.string x)) (s1:w.cell? ⟨h,no+1,none⟩=some (.string y)) (hp:Qaq cs x.data.toList=some p) (hq:Qaq cs y.data.toList=some q) (bq:0<tk) (ah:tb<w.heap.size) (t0:w.cell? ⟨tb,H,none⟩=some vc) (t1:w.cell? ⟨tb,H+1,none⟩=some vr)
 (hc:Qax w vc cs) (hr:QaG w vr rs) (h1:1<=cs.length) (h6:cs.length<=40) (hl:∀r∈rs,r.length=cs.length) (az:rs.length<=100) (aq:∀r∈rs,Qaz (vAt r q).2.1) (aw:∀r∈rs,∀x∈r,x.2.2.size<=maxLen) (hS:¬∀g∈Qeu p q (Qa9 [p] rs),Qaz g.2):
 Calls Tryz.prog 102 #[.agg j.cells,.slice (some ⟨tb,H,none⟩) tk tcap] w fun e w'=>e=.returned (.tuple #[.slice none 0 0,.slice none 0 0,QbN 2])/\Below w.heap.size w w':=by
 have br:=mkF;have aA:=Hk (fun W (hW:Below w.heap.size w W)=>Qa2 vr rs cs.length W (hr.below hW) hl h1 (by omega) az);have aY:=Qap hp;have a1:=Qap hq;have aU:=Hk (fun(v:Value) (us:List Value) W (hv:W.ownsRow (w.heap.size+1) 84 1 v rs.length us) (hH:Qab W (w.heap.size+1) us rs) (hs:w.heap.size+1<=W.heap.size)=>grouped_bad v us rs (w.heap.size+1) cs.length p q W hv hH hl h1 (by omega) az aY a1 aq aw hs hS);obtain⟨J,K,E,rfl,ag,Z⟩:=QbI hc h1;have aB:Hid (∀(v:Value) (nm:ByteArray) (k:Int) (W:World),Below w.heap.size w W->(v=.slice (some ⟨J,K,none⟩) cs.length E/\nm=x/\k=(p:Int)\/v=.slice (some ⟨J,K,none⟩) cs.length E/\nm=y/\k=(q:Int))->Calls Tryz.prog 133 #[v,.string nm] W fun e w'=>e=.returned (.int .i64 k)/\Below W.heap.size W w'):=by
  refine Hk ?_;rintro v nm k W hW (⟨rfl,rfl,rfl⟩|⟨rfl,rfl,rfl⟩)
  ·rw[<-QaN hp];exact QaH J K cs.length E cs nm W rfl (by omega) (by have:=hW.size;omega) (Z.below hW ag)
  ·rw[<-QaN hq];exact QaH J K cs.length E cs nm W rfl (by omega) (by have:=hW.size;omega) (Z.below hW ag)
 have htk':(0:Int)<(tk:Int):=by omega
 clear hl hc Z hp hq aq aw;obtain⟨ra,aS,rfl,-⟩:=hr;have ax:QaC (w.alloc (.cells j.cells 50)) w.heap.size j:=fun k v hk=>by rw[World.cell?_alloc_at _ _ _ _ rfl];exact hk
 have N:=Hk ax;clear ax;unfold Jb.cells at N⊢;rw[M,hj,ap] at N⊢;have ak:=Hk (Ai M (Ai hj ap));clear M hj ap
 all_goals
  go_enter Tryz.func102,Tryz.ntmps102;go_wp2_with fail
  go_cut [7,8] (fun p v wx=>∃(I:Nat) (us:List Value),p=.pointer (some ⟨I,0,none⟩)/\wx.cell? ⟨I,0,none⟩=some (.slice (some ⟨J,K,none⟩) cs.length E)/\I<wx.heap.size/\wx.ownsRow (w.heap.size+1) 84 1 v rs.length us/\Qab wx (w.heap.size+1) us rs/\QaC wx w.heap.size j/\Below w.heap.size w wx/\v.ownBlock≠some I)
  case first=>
   go_region_held3 (fun w'=>w'.cell? ⟨tb,H,none⟩=some (.slice (some ⟨J,K,none⟩) cs.length E)/\w'.cell? ⟨tb,H+1,none⟩=some (.slice ra rs.length aS))
    (first|(go_keep;done)|exact⟨(World.cell?_setCell_other _ _ _ _ (by intro e;simp at e;try omega)).trans k0,(World.cell?_setCell_other _ _ _ _ (by intro e;simp at e;try omega)).trans k1⟩)
    (first|(go_at_call 137;refine(aA.out _ (by first|exact(Qaa _ _).drew|exact(bel_box (Qaa _ _) _).drew)).mono ?_;rintro e w1 ⟨v1,us,rfl,aa,av,D⟩;have F:=bel_then (show Below w.heap.size w _ from(by first|exact(Qaa _ _).drew|exact(bel_box (Qaa _ _) _).drew)) D;have k0:=cK F ah t0;have k1:=cK F ah t1;have bs:tb<w1.heap.size:=Nat.lt_of_lt_of_le ah F.size;(try(have kb:=(D.cell (p:=⟨w.heap.size+1,0,none⟩) (by simp)).trans (show _=some (Value.slice none 0 0) by simp);have kf:=(D.frozen (p:=⟨w.heap.size+1,0,none⟩) (by simp)).trans (show _=false by simp);have kz:w.heap.size+1<w1.heap.size:=by(have:=D.size;simp at this;omega)))))
   all_goals go_wp2_with fail
   all_goals go_meet
   ·have ao:QaC w1 w.heap.size j:=fun k v hk=>(D.cell (p:=⟨w.heap.size,k,none⟩) (by simp)).trans (by simpa using N.out k v hk)
    exact⟨w1.heap.size,us,rfl,by simp,by simp,(own_mono (by simp) aa).alloc _,(av.mono (by simp)).below (Qaa _ _),ao.below (Qaa _ _) (by have:=D.size;simp at this;omega),bel_box F _,Qds aa⟩
   ·have ao:QaC w1 w.heap.size j:=fun k v hk=>(D.cell (p:=⟨w.heap.size,k,none⟩) (by simp;omega)).trans (by simpa using N.out k v hk)
    exact⟨w.heap.size+1,us,rfl,World.cell?_setCell_same _ _ _ kb,by simpa using kz,own_mono (by simp) (ownsRow_setCell_below aa (by simp) _),(Qab.set av (by simp)).mono (by simp),fun k v hk=>(World.cell?_setCell_other _ _ _ _ (by intro e;simp at e)).trans (ao k v hk),F.setCell (by show w.heap.size<=w.heap.size+1;omega) _,QcS aa (by simp)⟩
  case rest=>
   obtain⟨I,us,rfl,a2,al,hv,hH,hJ,U,ae⟩:=hcut;have bp:=U.size;have j1:wc.cell? ⟨w.heap.size,1,none⟩=some (.int .i64 8):=by have:=hJ 1 (.int .i64 j.code) rfl;rw[ak.out.1] at this;exact this
   have j4:wc.cell? ⟨w.heap.size,4,none⟩=some (.slice (some ⟨h,no,none⟩) 2 cc):=by have:=hJ 4 j.cols rfl;rw[ak.out.2.1] at this;exact this
   have j5:wc.cell? ⟨w.heap.size,5,none⟩=some (.string ⟨#[115,117,109]⟩):=by have:=hJ 5 (.string j.op) rfl;rw[ak.out.2.2] at this;exact this
   have au:=hJ.lt;have z4:=cK U aD s0;have z5:=cK U aD s1;have KX:Hid (∀V,Below wc.heap.size wc V->V.cell? ⟨I,0,none⟩=some (.slice (some ⟨J,K,none⟩) cs.length E)/\V.cell? ⟨w.heap.size,4,none⟩=some (.slice (some ⟨h,no,none⟩) 2 cc)/\V.cell? ⟨w.heap.size,5,none⟩=some (.string ⟨#[115,117,109]⟩)/\V.cell? ⟨h,no,none⟩=some (.string x)/\V.cell? ⟨h,no+1,none⟩=some (.string y)):=Hk (fun V hV=>⟨cK hV al a2,cK hV au j4,cK hV au j5,cK hV (by omega) z4,cK hV (by omega) z5⟩);have HB:=Hk (Ai U (Ai hv hH));obtain⟨xa,xc,rfl⟩:=own_slice hv;have KY:Hid (∀V V',Below wc.heap.size wc V->Below (w.heap.size+1) V V'->Kept (.slice xa rs.length xc) V V'->V'.cell? ⟨I,0,none⟩=some (.slice (some ⟨J,K,none⟩) cs.length E)/\V'.cell? ⟨w.heap.size,4,none⟩=some (.slice (some ⟨h,no,none⟩) 2 cc)/\V'.cell? ⟨w.heap.size,5,none⟩=some (.string ⟨#[115,117,109]⟩)/\V'.cell? ⟨h,no,none⟩=some (.string x)/\V'.cell? ⟨h,no+1,none⟩=some (.string y)):=Hk (fun V V' hV hV' hk=>by
    obtain⟨y0,y1,y2,y3,y4⟩:=KX.out V hV;have hs:=hV.size;exact⟨(hk ⟨I,0,none⟩ (Nat.lt_of_lt_of_le al hs) ae).trans y0,cK hV' (by omega) y1,cK hV' (by omega) y2,cK hV' (by omega) y3,cK hV' (by omega) y4⟩)
   clear U hv hH hJ aA N t0 t1 s0 s1 ae;have aj:=Hk (Ai (show Below wc.heap.size wc wc.drew from(Below.refl _ _).drew) HB.out.1.drew);go_wp2_with fail
   go_region_held3 (fun V=>V.cell? ⟨I,0,none⟩=some (.slice (some ⟨J,K,none⟩) cs.length E)/\V.cell? ⟨w.heap.size,4,none⟩=some (.slice (some ⟨h,no,none⟩) 2 cc)/\V.cell? ⟨w.heap.size,5,none⟩=some (.string ⟨#[115,117,109]⟩)/\V.cell? ⟨h,no,none⟩=some (.string x)/\V.cell? ⟨h,no+1,none⟩=some (.string y))
    (first|(go_keep;done)|exact KY.out _ _ O.out aF.out a5.out|exact KX.out _ O.out|exact KX.out _ aH.out)
    (first|(go_at_call 148;refine(aU.out _ us _ (owns_below HB.out.2.1 O.out) (HB.out.2.2.below O.out) (by have:=O.out.size;omega)).mono ?_;rintro e w3 ⟨aE,ay,rfl⟩;have aF:=Hk aE;have a5:=Hk ay;clear aE ay)|(go_at_call 133;refine(aB.out _ _ _ _ aG.out (by first|exact Or.inl ⟨rfl,rfl,rfl⟩|exact Or.inr ⟨rfl,rfl,rfl⟩)).mono ?_;rintro e w2 ⟨rfl,aC⟩;have O:=Hk (bel_then aH.out aC);have aX:=Hk (bel_then aG.out aC))|(go_at_call 133;refine(aB.out _ _ _ _ aj.out.2 (by first|exact Or.inl ⟨rfl,rfl,rfl⟩|exact Or.inr ⟨rfl,rfl,rfl⟩)).mono ?_;rintro e w1 ⟨rfl,D⟩;have aH:=Hk (bel_then aj.out.1 D);have aG:=Hk (bel_then aj.out.2 D)))
   go_wp2
   go_ret3
   exact⟨rfl,aX.out.trans (aF.out.mono (Nat.le_succ _))⟩
end Go.Proofs.YtjlgejennghhlaaGreatDoor
