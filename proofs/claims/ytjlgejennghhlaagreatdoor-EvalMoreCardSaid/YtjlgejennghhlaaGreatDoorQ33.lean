import Derived.Test.YtjlgejennghhlaaGreatDoorQ01
import Derived.Test.YtjlgejennghhlaaGreatDoorQ31
set_option linter.unusedSimpArgs false
set_option linter.unusedVariables false
set_option linter.unusedSectionVars false
set_option maxRecDepth 1000000
set_option maxHeartbeats 16000000
namespace Go.Proofs.YtjlgejennghhlaaGreatDoor
open Go.RowKit
theorem Qdo {w:World} {B n:Nat} {e:TypeId} {z:Nat} {v:Value} {xs:List Value} (h:w.ownsRow B e z v n xs):v.ownBlock≠some w.heap.size:=fun he=>by have:=(h.lt _ he).2;omega
theorem QcP {w:World} {B n k:Nat} {e:TypeId} {z:Nat} {v:Value} {xs:List Value} (h:w.ownsRow B e z v n xs) (y:k<B):v.ownBlock≠some k:=fun he=>by have:=(h.lt _ he).1;omega
theorem QfK (F H D J b o n c:Nat) (j:Jb) (r:Int) (w:World) (h:j.code=8) (N:0<D) (M:F<w.heap.size) (U:w.cell? ⟨F,H,none⟩=some (.slice (some ⟨b,o,none⟩) n c))
 (y:∀W,Below w.heap.size w W->Calls Tryz.prog 129 #[.agg j.cells,.slice (some ⟨b,o,none⟩) n c] W fun e w'=>e=.returned (QbK r)/\Below W.heap.size W w'):
 Calls Tryz.prog 96 #[.agg j.cells,.slice (some ⟨F,H,none⟩) D J] w fun e w'=>e=.returned (QbK r)/\Below w.heap.size w w':=by
 unfold Jb.cells at y⊢;rw[h] at y⊢;generalize QbK r=ev at*;have K:=Hk y;have htk':(0:Int)<(D:Int):=by omega
 clear y h;go_enter Tryz.func96,Tryz.ntmps96;go_wp2_with (go_at_call 129;refine(K.out _ (Qaa _ _)).mono ?_;rintro e O ⟨rfl,I⟩);go_ret;exact⟨rfl,bel_then (Qaa _ _) I⟩
theorem QcQ (U ho Z ar b o n c:Nat) (cs:List Cl) (y:List ByteArray) (j:Jb) (w:World) (I:j.code=8) (aE:0<Z) (aF:U<w.heap.size) (h0:w.cell? ⟨U,ho,none⟩=some (.slice (some ⟨b,o,none⟩) n c)) (hs:Qcl w j.cols y) (he:QaQ cs y=0)
 (hn:cs.length=n) (ah:n<=100) (K:b<w.heap.size) (hc:Qau w b o cs):
 Calls Tryz.prog 97 #[.agg j.cells,.slice (some ⟨U,ho,none⟩) Z ar] w fun e w'=>∃u,e=.returned u/\w'.ownsRow w.heap.size 64 2 u (Qbc (Qaj cs y) cs).length (Qak (Qbc (Qaj cs y) cs))/\Below w.heap.size w w':=by
 obtain⟨l0,l6,F⟩:=QcB he;obtain⟨ca,cc,hj,aa,al,H⟩:=hs;rcases H with h|⟨nb,no,rfl,hl,H⟩
 ·rw[h] at l0;simp at l0
 have M:(Qaj cs y).length=y.length:=by simp[Qaj]
 have hT:=fun W (D:Below w.heap.size w W)=>QdV nb no cc b o n c y.length y (Qaj cs y) cs W rfl (by omega) (by have:=D.size;omega) (H.below D hl) hn ah (by have:=D.size;omega) (hc.below D K) M (QdX F)
 have V:=fun W (D:Below w.heap.size w W) g gc (hg:g<W.heap.size) (hi:QcA W g 0 (Qaj cs y))=>Qgr b o c g 0 gc cs (Qaj cs y) W (hc.below D K) (by have:=D.size;omega) hi hg (QcC F) (by omega) (by omega)
 rw[hn] at V;rw[show(Qbc (Qaj cs y) cs).length=(Qaj cs y).length by simp[Qbc]];unfold Jb.cells;rw[hj];obtain⟨code,O⟩:∃k,j.code=k:=⟨_,rfl⟩;rw[O] at I⊢;clear O;subst I;have N:0<(Qaj cs y).length:=by omega
 generalize af:Qaj cs y=ks at*;have HT:=Hk hT;have HQ:=Hk V;have htk':(0:Int)<(Z:Int):=by omega
 have HK:=Hk N;clear hT V hn hc hj H F M l0 l6 he af N al aa;go_enter Tryz.func97,Tryz.ntmps97;go_wp2_with (first|(go_at_call 131;refine(HT.out _ (Qaa _ _)).mono ?_;rintro e w1 ⟨v1,rfl,aj,J⟩;obtain⟨g,gc,rfl,aG,aq,ae⟩:=QdG aj HK.out)|(go_at_call 130;refine(HQ.out _ (bel_then (Qaa _ _) J) _ _ aq ae).mono ?_;rintro e w2 ⟨v2,rfl,ap,am⟩));go_ret;exact⟨_,rfl,own_mono (by have:=J.size;simp at this;omega) ap,bel_then (bel_then (Qaa _ _) J) am⟩
theorem grouped_ok (v:Value) (us:List Value) (rs:List (List Vl)) (B m p q:Nat) (w:World) (V:w.ownsRow B 84 1 v rs.length us) (Z:Qab w B us rs) (U:∀r∈rs,r.length=m) (h1:1<=m) (M:m<=100) (H:rs.length<=100) (K:p<m) (O:q<m) (F:∀r∈rs,Qaz (vAt r q).2.1) (J:∀r∈rs,∀x∈r,x.2.2.size<=maxLen) (I:B<=w.heap.size) (hS:∀g∈Qep p q (Qa8 [p] rs),Qaz g.2):
 Calls Tryz.prog 148 #[v,.int .i64 p,.int .i64 q,.string ⟨#[115,117,109]⟩] w fun e w'=>Below B w w'/\Kept v w w'/\∃D y,e=.returned (.tuple #[D,.nilIface])/\w'.ownsRow B 84 1 D (QaA (Qep p q (Qa8 [p] rs))).length y/\Qab w' B y (QaA (Qep p q (Qa8 [p] rs))):=by
 refine(QfG v us rs B m p q w V Z U h1 M H K O F J I).mono ?_;rintro e w' ⟨a,b,⟨-,D,y,N,c,d⟩|⟨h,-⟩⟩
 ·exact⟨a,b,D,y,N,c,d⟩
 ·exact absurd hS h
theorem grouped_bad (v:Value) (us:List Value) (rs:List (List Vl)) (B m p q:Nat) (w:World) (M:w.ownsRow B 84 1 v rs.length us) (U:Qab w B us rs) (N:∀r∈rs,r.length=m) (V:1<=m) (J:m<=100) (D:rs.length<=100) (I:p<m) (K:q<m) (y:∀r∈rs,Qaz (vAt r q).2.1) (H:∀r∈rs,∀x∈r,x.2.2.size<=maxLen) (F:B<=w.heap.size) (O:¬∀g∈Qep p q (Qa8 [p] rs),Qaz g.2):
 Calls Tryz.prog 148 #[v,.int .i64 p,.int .i64 q,.string ⟨#[115,117,109]⟩] w fun e w'=>Below B w w'/\Kept v w w'/\e=.returned (.tuple #[.slice none 0 0,QbK 2]):=by
 refine(QfG v us rs B m p q w M U N V J D I K y H F).mono ?_;rintro e w' ⟨a,b,⟨h,-⟩|⟨-,h⟩⟩
 ·exact absurd h O
 ·exact⟨a,b,h⟩
theorem rowsOf_group_ok (tb I tk tcap h no cc p q:Nat) (vc vr:Value) (cs:List Cl) (rs:List (List Vl)) (x y:ByteArray) (j:Jb) (w:World) (N:j.code=8) (aq:j.op=⟨#[115,117,109]⟩) (hj:j.cols=.slice (some ⟨h,no,none⟩) 2 cc) (aE:h<w.heap.size) (s0:w.cell? ⟨h,no,none⟩=some (.string x)) (s1:w.cell? ⟨h,no+1,none⟩=some (.string y)) (hp:Qaq cs x.data.toList=some p) (hq:Qaq cs y.data.toList=some q) (bw:0<tk) (ai:tb<w.heap.size) (t0:w.cell? ⟨tb,I,none⟩=some vc) (t1:w.cell? ⟨tb,I+1,none⟩=some vr)
 (hc:Qax w vc cs) (hr:QaG w vr rs) (h1:1<=cs.length) (h6:cs.length<=40) (hl:∀r∈rs,r.length=cs.length) (aA:rs.length<=100) (ar:∀r∈rs,Qaz (vAt r q).2.1) (ax:∀r∈rs,∀x∈r,x.2.2.size<=maxLen) (hS:∀g∈Qep p q (Qa8 [p] rs),Qaz g.2):
 Calls Tryz.prog 102 #[.agg j.cells,.slice (some ⟨tb,I,none⟩) tk tcap] w fun e w'=>∃v1 us1,e=.returned (.tuple #[v1,.slice none 0 0,.nilIface])/\w'.ownsRow w.heap.size 84 1 v1 (QaA (Qep p q (Qa8 [p] rs))).length us1/\Qab w' w.heap.size us1 (QaA (Qep p q (Qa8 [p] rs)))/\Below w.heap.size w w':=by
 have bx:=mkF;have aB:=Hk (fun W (hW:Below w.heap.size w W)=>Qa0 vr rs cs.length W (hr.below hW) hl h1 (by omega) aA);have a3:=Qap hp;have a7:=Qap hq;have aZ:=Hk (fun(v:Value) (us:List Value) W (hv:W.ownsRow (w.heap.size+1) 84 1 v rs.length us) (hH:Qab W (w.heap.size+1) us rs) (hs:w.heap.size+1<=W.heap.size)=>grouped_ok v us rs (w.heap.size+1) cs.length p q W hv hH hl h1 (by omega) aA a3 a7 ar ax hs hS);obtain⟨K,M,F,rfl,ah,aa⟩:=QbF hc h1;have aC:Hid (∀(v:Value) (nm:ByteArray) (k:Int) (W:World),Below w.heap.size w W->(v=.slice (some ⟨K,M,none⟩) cs.length F/\nm=x/\k=(p:Int)\/v=.slice (some ⟨K,M,none⟩) cs.length F/\nm=y/\k=(q:Int))->Calls Tryz.prog 133 #[v,.string nm] W fun e w'=>e=.returned (.int .i64 k)/\Below W.heap.size W w'):=by
  refine Hk ?_;rintro v nm k W hW (⟨rfl,rfl,rfl⟩|⟨rfl,rfl,rfl⟩)
  ·rw[<-QaN hp];exact QaH K M cs.length F cs nm W rfl (by omega) (by have:=hW.size;omega) (aa.below hW ah)
  ·rw[<-QaN hq];exact QaH K M cs.length F cs nm W rfl (by omega) (by have:=hW.size;omega) (aa.below hW ah)
 have htk':(0:Int)<(tk:Int):=by omega
 clear hl hc aa hp hq ar ax;obtain⟨ra,aX,rfl,-⟩:=hr;have ay:QaC (w.alloc (.cells j.cells 50)) w.heap.size j:=fun k v hk=>by rw[World.cell?_alloc_at _ _ _ _ rfl];exact hk
 have O:=Hk ay;clear ay;unfold Jb.cells at O⊢;rw[N,hj,aq] at O⊢;have al:=Hk (Ai N (Ai hj aq));clear N hj aq
 all_goals
  go_enter Tryz.func102,Tryz.ntmps102;go_wp2_with fail
  go_cut [7,8] (fun p v wx=>∃(J:Nat) (us:List Value),p=.pointer (some ⟨J,0,none⟩)/\wx.cell? ⟨J,0,none⟩=some (.slice (some ⟨K,M,none⟩) cs.length F)/\J<wx.heap.size/\wx.ownsRow (w.heap.size+1) 84 1 v rs.length us/\Qab wx (w.heap.size+1) us rs/\QaC wx w.heap.size j/\Below w.heap.size w wx/\v.ownBlock≠some J)
  case first=>
   go_region_held3 (fun w'=>w'.cell? ⟨tb,I,none⟩=some (.slice (some ⟨K,M,none⟩) cs.length F)/\w'.cell? ⟨tb,I+1,none⟩=some (.slice ra rs.length aX))
    (first|(go_keep;done)|exact⟨(World.cell?_setCell_other _ _ _ _ (by intro e;simp at e;try omega)).trans k0,(World.cell?_setCell_other _ _ _ _ (by intro e;simp at e;try omega)).trans k1⟩)
    (first|(go_at_call 137;refine(aB.out _ (by first|exact(Qaa _ _).drew|exact(bel_box (Qaa _ _) _).drew)).mono ?_;rintro e w1 ⟨v1,us,rfl,ac,aw,D⟩;have H:=bel_then (show Below w.heap.size w _ from(by first|exact(Qaa _ _).drew|exact(bel_box (Qaa _ _) _).drew)) D;have k0:=cK H ai t0;have k1:=cK H ai t1;have bz:tb<w1.heap.size:=Nat.lt_of_lt_of_le ai H.size;(try(have kb:=(D.cell (p:=⟨w.heap.size+1,0,none⟩) (by simp)).trans (show _=some (Value.slice none 0 0) by simp);have kf:=(D.frozen (p:=⟨w.heap.size+1,0,none⟩) (by simp)).trans (show _=false by simp);have kz:w.heap.size+1<w1.heap.size:=by(have:=D.size;simp at this;omega)))))
   all_goals go_wp2_with fail
   all_goals go_meet
   ·have ap:QaC w1 w.heap.size j:=fun k v hk=>(D.cell (p:=⟨w.heap.size,k,none⟩) (by simp)).trans (by simpa using O.out k v hk)
    exact⟨w1.heap.size,us,rfl,by simp,by simp,(own_mono (by simp) ac).alloc _,(aw.mono (by simp)).below (Qaa _ _),ap.below (Qaa _ _) (by have:=D.size;simp at this;omega),bel_box H _,Qdo ac⟩
   ·have ap:QaC w1 w.heap.size j:=fun k v hk=>(D.cell (p:=⟨w.heap.size,k,none⟩) (by simp;omega)).trans (by simpa using O.out k v hk)
    exact⟨w.heap.size+1,us,rfl,World.cell?_setCell_same _ _ _ kb,by simpa using kz,own_mono (by simp) (ownsRow_setCell_below ac (by simp) _),(Qab.set aw (by simp)).mono (by simp),fun k v hk=>(World.cell?_setCell_other _ _ _ _ (by intro e;simp at e)).trans (ap k v hk),H.setCell (by show w.heap.size<=w.heap.size+1;omega) _,QcP ac (by simp)⟩
  case rest=>
   obtain⟨J,us,rfl,a8,am,hv,hH,hJ,Z,af⟩:=hcut;have bv:=Z.size;have j1:wc.cell? ⟨w.heap.size,1,none⟩=some (.int .i64 8):=by have:=hJ 1 (.int .i64 j.code) rfl;rw[al.out.1] at this;exact this
   have j4:wc.cell? ⟨w.heap.size,4,none⟩=some (.slice (some ⟨h,no,none⟩) 2 cc):=by have:=hJ 4 j.cols rfl;rw[al.out.2.1] at this;exact this
   have j5:wc.cell? ⟨w.heap.size,5,none⟩=some (.string ⟨#[115,117,109]⟩):=by have:=hJ 5 (.string j.op) rfl;rw[al.out.2.2] at this;exact this
   have av:=hJ.lt;have z4:=cK Z aE s0;have z5:=cK Z aE s1;have KX:Hid (∀V,Below wc.heap.size wc V->V.cell? ⟨J,0,none⟩=some (.slice (some ⟨K,M,none⟩) cs.length F)/\V.cell? ⟨w.heap.size,4,none⟩=some (.slice (some ⟨h,no,none⟩) 2 cc)/\V.cell? ⟨w.heap.size,5,none⟩=some (.string ⟨#[115,117,109]⟩)/\V.cell? ⟨h,no,none⟩=some (.string x)/\V.cell? ⟨h,no+1,none⟩=some (.string y)):=Hk (fun V hV=>⟨cK hV am a8,cK hV av j4,cK hV av j5,cK hV (by omega) z4,cK hV (by omega) z5⟩);have HB:=Hk (Ai Z (Ai hv hH));obtain⟨xa,xc,rfl⟩:=own_slice hv;have KY:Hid (∀V V',Below wc.heap.size wc V->Below (w.heap.size+1) V V'->Kept (.slice xa rs.length xc) V V'->V'.cell? ⟨J,0,none⟩=some (.slice (some ⟨K,M,none⟩) cs.length F)/\V'.cell? ⟨w.heap.size,4,none⟩=some (.slice (some ⟨h,no,none⟩) 2 cc)/\V'.cell? ⟨w.heap.size,5,none⟩=some (.string ⟨#[115,117,109]⟩)/\V'.cell? ⟨h,no,none⟩=some (.string x)/\V'.cell? ⟨h,no+1,none⟩=some (.string y)):=Hk (fun V V' hV hV' hk=>by
    obtain⟨y0,y1,y2,y3,y4⟩:=KX.out V hV;have hs:=hV.size;exact⟨(hk ⟨J,0,none⟩ (Nat.lt_of_lt_of_le am hs) af).trans y0,cK hV' (by omega) y1,cK hV' (by omega) y2,cK hV' (by omega) y3,cK hV' (by omega) y4⟩)
   clear Z hv hH hJ aB O t0 t1 s0 s1 af;have ak:=Hk (Ai (show Below wc.heap.size wc wc.drew from(Below.refl _ _).drew) HB.out.1.drew);go_wp2_with fail
   go_region_held3 (fun V=>V.cell? ⟨J,0,none⟩=some (.slice (some ⟨K,M,none⟩) cs.length F)/\V.cell? ⟨w.heap.size,4,none⟩=some (.slice (some ⟨h,no,none⟩) 2 cc)/\V.cell? ⟨w.heap.size,5,none⟩=some (.string ⟨#[115,117,109]⟩)/\V.cell? ⟨h,no,none⟩=some (.string x)/\V.cell? ⟨h,no+1,none⟩=some (.string y))
    (first|(go_keep;done)|exact KY.out _ _ U.out aG.out bd.out|exact KX.out _ U.out|exact KX.out _ aI.out)
    (first|(go_at_call 148;refine(aZ.out _ us _ (owns_below HB.out.2.1 U.out) (HB.out.2.2.below U.out) (by have:=U.out.size;omega)).mono ?_;rintro e w3 ⟨aF,az,v3,a5,rfl,aJ,aK⟩;have aG:=Hk aF;have bd:=Hk az;have aL:=Hk (Ai aJ aK);clear aF az aJ aK)|(go_at_call 133;refine(aC.out _ _ _ _ aH.out (by first|exact Or.inl ⟨rfl,rfl,rfl⟩|exact Or.inr ⟨rfl,rfl,rfl⟩)).mono ?_;rintro e w2 ⟨rfl,aD⟩;have U:=Hk (bel_then aI.out aD);have a2:=Hk (bel_then aH.out aD))|(go_at_call 133;refine(aC.out _ _ _ _ ak.out.2 (by first|exact Or.inl ⟨rfl,rfl,rfl⟩|exact Or.inr ⟨rfl,rfl,rfl⟩)).mono ?_;rintro e w1 ⟨rfl,D⟩;have aI:=Hk (bel_then ak.out.1 D);have aH:=Hk (bel_then ak.out.2 D)))
   go_wp2
   go_ret3
   exact⟨_,a5,rfl,own_mono (by omega) aL.out.1,aL.out.2.mono (by omega),a2.out.trans (aG.out.mono (Nat.le_succ _))⟩
theorem rowsOf_group_bad (tb I tk tcap h no cc p q:Nat) (vc vr:Value) (cs:List Cl) (rs:List (List Vl)) (x y:ByteArray) (j:Jb) (w:World) (N:j.code=8) (aq:j.op=⟨#[115,117,109]⟩) (hj:j.cols=.slice (some ⟨h,no,none⟩) 2 cc) (aE:h<w.heap.size) (s0:w.cell? ⟨h,no,none⟩=some (.string x)) (s1:w.cell? ⟨h,no+1,none⟩=some (.string y)) (hp:Qaq cs x.data.toList=some p) (hq:Qaq cs y.data.toList=some q) (br:0<tk) (ai:tb<w.heap.size) (t0:w.cell? ⟨tb,I,none⟩=some vc) (t1:w.cell? ⟨tb,I+1,none⟩=some vr)
 (hc:Qax w vc cs) (hr:QaG w vr rs) (h1:1<=cs.length) (h6:cs.length<=40) (hl:∀r∈rs,r.length=cs.length) (aA:rs.length<=100) (ar:∀r∈rs,Qaz (vAt r q).2.1) (ax:∀r∈rs,∀x∈r,x.2.2.size<=maxLen) (hS:¬∀g∈Qep p q (Qa8 [p] rs),Qaz g.2):
 Calls Tryz.prog 102 #[.agg j.cells,.slice (some ⟨tb,I,none⟩) tk tcap] w fun e w'=>e=.returned (.tuple #[.slice none 0 0,.slice none 0 0,QbK 2])/\Below w.heap.size w w':=by
 have bs:=mkF;have aB:=Hk (fun W (hW:Below w.heap.size w W)=>Qa0 vr rs cs.length W (hr.below hW) hl h1 (by omega) aA);have aZ:=Qap hp;have a2:=Qap hq;have aV:=Hk (fun(v:Value) (us:List Value) W (hv:W.ownsRow (w.heap.size+1) 84 1 v rs.length us) (hH:Qab W (w.heap.size+1) us rs) (hs:w.heap.size+1<=W.heap.size)=>grouped_bad v us rs (w.heap.size+1) cs.length p q W hv hH hl h1 (by omega) aA aZ a2 ar ax hs hS);obtain⟨K,M,F,rfl,ah,aa⟩:=QbF hc h1;have aC:Hid (∀(v:Value) (nm:ByteArray) (k:Int) (W:World),Below w.heap.size w W->(v=.slice (some ⟨K,M,none⟩) cs.length F/\nm=x/\k=(p:Int)\/v=.slice (some ⟨K,M,none⟩) cs.length F/\nm=y/\k=(q:Int))->Calls Tryz.prog 133 #[v,.string nm] W fun e w'=>e=.returned (.int .i64 k)/\Below W.heap.size W w'):=by
  refine Hk ?_;rintro v nm k W hW (⟨rfl,rfl,rfl⟩|⟨rfl,rfl,rfl⟩)
  ·rw[<-QaN hp];exact QaH K M cs.length F cs nm W rfl (by omega) (by have:=hW.size;omega) (aa.below hW ah)
  ·rw[<-QaN hq];exact QaH K M cs.length F cs nm W rfl (by omega) (by have:=hW.size;omega) (aa.below hW ah)
 have htk':(0:Int)<(tk:Int):=by omega
 clear hl hc aa hp hq ar ax;obtain⟨ra,aT,rfl,-⟩:=hr;have ay:QaC (w.alloc (.cells j.cells 50)) w.heap.size j:=fun k v hk=>by rw[World.cell?_alloc_at _ _ _ _ rfl];exact hk
 have O:=Hk ay;clear ay;unfold Jb.cells at O⊢;rw[N,hj,aq] at O⊢;have al:=Hk (Ai N (Ai hj aq));clear N hj aq
 all_goals
  go_enter Tryz.func102,Tryz.ntmps102;go_wp2_with fail
  go_cut [7,8] (fun p v wx=>∃(J:Nat) (us:List Value),p=.pointer (some ⟨J,0,none⟩)/\wx.cell? ⟨J,0,none⟩=some (.slice (some ⟨K,M,none⟩) cs.length F)/\J<wx.heap.size/\wx.ownsRow (w.heap.size+1) 84 1 v rs.length us/\Qab wx (w.heap.size+1) us rs/\QaC wx w.heap.size j/\Below w.heap.size w wx/\v.ownBlock≠some J)
  case first=>
   go_region_held3 (fun w'=>w'.cell? ⟨tb,I,none⟩=some (.slice (some ⟨K,M,none⟩) cs.length F)/\w'.cell? ⟨tb,I+1,none⟩=some (.slice ra rs.length aT))
    (first|(go_keep;done)|exact⟨(World.cell?_setCell_other _ _ _ _ (by intro e;simp at e;try omega)).trans k0,(World.cell?_setCell_other _ _ _ _ (by intro e;simp at e;try omega)).trans k1⟩)
    (first|(go_at_call 137;refine(aB.out _ (by first|exact(Qaa _ _).drew|exact(bel_box (Qaa _ _) _).drew)).mono ?_;rintro e w1 ⟨v1,us,rfl,ac,aw,D⟩;have H:=bel_then (show Below w.heap.size w _ from(by first|exact(Qaa _ _).drew|exact(bel_box (Qaa _ _) _).drew)) D;have k0:=cK H ai t0;have k1:=cK H ai t1;have bt:tb<w1.heap.size:=Nat.lt_of_lt_of_le ai H.size;(try(have kb:=(D.cell (p:=⟨w.heap.size+1,0,none⟩) (by simp)).trans (show _=some (Value.slice none 0 0) by simp);have kf:=(D.frozen (p:=⟨w.heap.size+1,0,none⟩) (by simp)).trans (show _=false by simp);have kz:w.heap.size+1<w1.heap.size:=by(have:=D.size;simp at this;omega)))))
   all_goals go_wp2_with fail
   all_goals go_meet
   ·have ap:QaC w1 w.heap.size j:=fun k v hk=>(D.cell (p:=⟨w.heap.size,k,none⟩) (by simp)).trans (by simpa using O.out k v hk)
    exact⟨w1.heap.size,us,rfl,by simp,by simp,(own_mono (by simp) ac).alloc _,(aw.mono (by simp)).below (Qaa _ _),ap.below (Qaa _ _) (by have:=D.size;simp at this;omega),bel_box H _,Qdo ac⟩
   ·have ap:QaC w1 w.heap.size j:=fun k v hk=>(D.cell (p:=⟨w.heap.size,k,none⟩) (by simp;omega)).trans (by simpa using O.out k v hk)
    exact⟨w.heap.size+1,us,rfl,World.cell?_setCell_same _ _ _ kb,by simpa using kz,own_mono (by simp) (ownsRow_setCell_below ac (by simp) _),(Qab.set aw (by simp)).mono (by simp),fun k v hk=>(World.cell?_setCell_other _ _ _ _ (by intro e;simp at e)).trans (ap k v hk),H.setCell (by show w.heap.size<=w.heap.size+1;omega) _,QcP ac (by simp)⟩
  case rest=>
   obtain⟨J,us,rfl,a3,am,hv,hH,hJ,Z,af⟩:=hcut;have bq:=Z.size;have j1:wc.cell? ⟨w.heap.size,1,none⟩=some (.int .i64 8):=by have:=hJ 1 (.int .i64 j.code) rfl;rw[al.out.1] at this;exact this
   have j4:wc.cell? ⟨w.heap.size,4,none⟩=some (.slice (some ⟨h,no,none⟩) 2 cc):=by have:=hJ 4 j.cols rfl;rw[al.out.2.1] at this;exact this
   have j5:wc.cell? ⟨w.heap.size,5,none⟩=some (.string ⟨#[115,117,109]⟩):=by have:=hJ 5 (.string j.op) rfl;rw[al.out.2.2] at this;exact this
   have av:=hJ.lt;have z4:=cK Z aE s0;have z5:=cK Z aE s1;have KX:Hid (∀V,Below wc.heap.size wc V->V.cell? ⟨J,0,none⟩=some (.slice (some ⟨K,M,none⟩) cs.length F)/\V.cell? ⟨w.heap.size,4,none⟩=some (.slice (some ⟨h,no,none⟩) 2 cc)/\V.cell? ⟨w.heap.size,5,none⟩=some (.string ⟨#[115,117,109]⟩)/\V.cell? ⟨h,no,none⟩=some (.string x)/\V.cell? ⟨h,no+1,none⟩=some (.string y)):=Hk (fun V hV=>⟨cK hV am a3,cK hV av j4,cK hV av j5,cK hV (by omega) z4,cK hV (by omega) z5⟩);have HB:=Hk (Ai Z (Ai hv hH));obtain⟨xa,xc,rfl⟩:=own_slice hv;have KY:Hid (∀V V',Below wc.heap.size wc V->Below (w.heap.size+1) V V'->Kept (.slice xa rs.length xc) V V'->V'.cell? ⟨J,0,none⟩=some (.slice (some ⟨K,M,none⟩) cs.length F)/\V'.cell? ⟨w.heap.size,4,none⟩=some (.slice (some ⟨h,no,none⟩) 2 cc)/\V'.cell? ⟨w.heap.size,5,none⟩=some (.string ⟨#[115,117,109]⟩)/\V'.cell? ⟨h,no,none⟩=some (.string x)/\V'.cell? ⟨h,no+1,none⟩=some (.string y)):=Hk (fun V V' hV hV' hk=>by
    obtain⟨y0,y1,y2,y3,y4⟩:=KX.out V hV;have hs:=hV.size;exact⟨(hk ⟨J,0,none⟩ (Nat.lt_of_lt_of_le am hs) af).trans y0,cK hV' (by omega) y1,cK hV' (by omega) y2,cK hV' (by omega) y3,cK hV' (by omega) y4⟩)
   clear Z hv hH hJ aB O t0 t1 s0 s1 af;have ak:=Hk (Ai (show Below wc.heap.size wc wc.drew from(Below.refl _ _).drew) HB.out.1.drew);go_wp2_with fail
   go_region_held3 (fun V=>V.cell? ⟨J,0,none⟩=some (.slice (some ⟨K,M,none⟩) cs.length F)/\V.cell? ⟨w.heap.size,4,none⟩=some (.slice (some ⟨h,no,none⟩) 2 cc)/\V.cell? ⟨w.heap.size,5,none⟩=some (.string ⟨#[115,117,109]⟩)/\V.cell? ⟨h,no,none⟩=some (.string x)/\V.cell? ⟨h,no+1,none⟩=some (.string y))
    (first|(go_keep;done)|exact KY.out _ _ U.out aG.out a6.out|exact KX.out _ U.out|exact KX.out _ aI.out)
    (first|(go_at_call 148;refine(aV.out _ us _ (owns_below HB.out.2.1 U.out) (HB.out.2.2.below U.out) (by have:=U.out.size;omega)).mono ?_;rintro e w3 ⟨aF,az,rfl⟩;have aG:=Hk aF;have a6:=Hk az;clear aF az)|(go_at_call 133;refine(aC.out _ _ _ _ aH.out (by first|exact Or.inl ⟨rfl,rfl,rfl⟩|exact Or.inr ⟨rfl,rfl,rfl⟩)).mono ?_;rintro e w2 ⟨rfl,aD⟩;have U:=Hk (bel_then aI.out aD);have aY:=Hk (bel_then aH.out aD))|(go_at_call 133;refine(aC.out _ _ _ _ ak.out.2 (by first|exact Or.inl ⟨rfl,rfl,rfl⟩|exact Or.inr ⟨rfl,rfl,rfl⟩)).mono ?_;rintro e w1 ⟨rfl,D⟩;have aI:=Hk (bel_then ak.out.1 D);have aH:=Hk (bel_then ak.out.2 D)))
   go_wp2
   go_ret3
   exact⟨rfl,aY.out.trans (aG.out.mono (Nat.le_succ _))⟩
end Go.Proofs.YtjlgejennghhlaaGreatDoor
