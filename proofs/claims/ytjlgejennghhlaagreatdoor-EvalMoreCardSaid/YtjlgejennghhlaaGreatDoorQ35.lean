import Derived.Test.YtjlgejennghhlaaGreatDoorQ01
import Derived.Test.YtjlgejennghhlaaGreatDoorQ34
import Derived.Test.YtjlgejennghhlaaGreatDoorQ32
set_option linter.unusedSimpArgs false
set_option linter.unusedVariables false
set_option linter.unusedSectionVars false
set_option maxRecDepth 1000000
set_option maxHeartbeats 16000000
namespace Go.Proofs.YtjlgejennghhlaaGreatDoor.Mx
open Go.RowKit
theorem group_any (b o n c J M cc:Nat) (cs:List Cl) (x y:ByteArray) (j:Jb) (w:World) (hj:j.cols=.slice (some ⟨J,M,none⟩) 2 cc) (am:j.op=⟨#[109,97,120]⟩) (aa:J<w.heap.size) (s0:w.cell? ⟨J,M,none⟩=some (.string x)) (s1:w.cell? ⟨J,M+1,none⟩=some (.string y))
 (hn:cs.length=n) (ar:n<=100) (hb:b<w.heap.size) (hc:Qau w b o cs):
 Calls Tryz.prog 129 #[.agg j.cells,.slice (some ⟨b,o,none⟩) n c] w fun e w'=>e=.returned (QbK (QaM cs x y))/\Below w.heap.size w w':=by
 have hP:=fun nm W (h1:Below w.heap.size w W)=>QaH b o n c cs nm W hn ar (by have:=h1.size;omega) (hc.below h1 hb)
 have hJ:=Qce w j 50;have F:=Qaa w (.cells j.cells 50);obtain⟨W,O⟩:∃W,W=w.alloc (.cells j.cells 50):=⟨_,rfl⟩;rw[<-O] at hJ F;have e4:=cell_regrown (show W.cell? ⟨w.heap.size,4,none⟩=some (.slice (some ⟨J,M,none⟩) 2 cc) from by have:=hJ 4 j.cols rfl;rw[hj] at this;exact this);have e5:=cell_regrown (cK F aa s0);have e6:=cell_regrown (cK F aa s1);have C1:∀nm d os,_:=fun nm d os=>Calls.regrown_of (hP nm (Sort.grow (redrawn W d) os) (bel_then F (below_regrown _ _ _)))
 have HB:=Hk F;have HC:=Hk (Ai hn hc);obtain⟨P,Z⟩:∃P,QaB cs x.data.toList=P:=⟨_,rfl⟩;obtain⟨Q,U⟩:∃Q,QaB cs y.data.toList=Q:=⟨_,rfl⟩;have H:=Hk (Ai Z U);clear hJ F hn hc hP;unfold Jb.cells at O⊢;rw[hj,am] at O⊢;go_enter Tryz.func129,Tryz.ntmps129;go_wp2;rw[<-O];clear O;refine wp_region_quiet_below (by kernel_rfl) (by kernel_rfl) ?_
 repeat(any_goals(first|go_big_quiet_step (exact C1 _ _ _)|quiet_step (exact C1 _ _ _)))
 refine wpQuiet_nil ?_;intro _ aj;obtain⟨⟨dq,ac⟩,ae⟩:=aj;subst ae;have D:=Hk (bel_then HB.out (below_regrown W dq ac));clear e4 e5 e6 C1 HB;generalize Sort.grow (redrawn W dq) ac=W5 at*
 try rw[Z]
 try rw[U]
 clear Z U
 cases hpx:Qaq cs x.data.toList with
 |none=>
  have h:QaM cs x y=7:=by unfold QaM;rw[hpx]
  have I:=Hk h;have K:P= -1:=by rw[<-H.out.1];exact QcE hpx
  subst K;clear hpx h H;go_wp2;go_ret;exact⟨by rw[I.out,QaS (by decide)];rfl,D.out⟩
 |some p=>
  have K:P=(p:Int):=by rw[<-H.out.1];exact QaN hpx
  cases hqy:Qaq cs y.data.toList with
  |none=>
   have h:QaM cs x y=7:=by unfold QaM;rw[hpx,hqy]
   have I:=Hk h;have N:Q= -1:=by rw[<-H.out.2];exact QcE hqy
   subst N K;have au:¬((p:Int)<0):=by omega
   clear hpx hqy h H;go_wp2;go_ret;exact⟨by rw[I.out,QaS (by decide)];rfl,D.out⟩
  |some q=>
   have N:Q=(q:Int):=by rw[<-H.out.2];exact QaN hqy
   have ad:=Qap hqy;have V:=((HC.out.2 q ad).2);rw[Qd0 ad] at V;have d5:=cK D.out hb V;have aD:(q:Int)<(n:Int):=by have:=HC.out.1;omega
   have au:¬((p:Int)<0):=by omega
   have aE:¬((q:Int)<0):=by omega
   have h:QaM cs x y=if QbM cs q≠1 then 13 else if p=q then 9 else 0:=by unfold QaM;rw[hpx,hqy]
   clear hpx hqy V;subst N K;generalize QbM cs q=kd at*
   by_cases hk:kd=1
   ·subst hk;rw[if_neg (by decide)] at h
    by_cases ab:p=q
    ·subst ab;rw[if_pos rfl] at h;have I:=Hk h;clear h;go_wp2;go_ret;exact⟨by rw[I.out,QaS (by decide)];rfl,D.out⟩
    ·rw[if_neg ab] at h;have I:=Hk h;clear h;have hpq':¬((p:Int)=(q:Int)):=by omega
     go_wp2;go_ret;exact⟨by rw[I.out,QeH];rfl,D.out⟩
   ·rw[if_pos hk] at h;have I:=Hk h;clear h;go_wp2;go_ret;exact⟨by rw[I.out,QaS (by decide)];rfl,D.out⟩
theorem grouped_ok (v:Value) (us:List Value) (rs:List (List Vl)) (B m p q:Nat) (w:World) (V:w.ownsRow B 84 1 v rs.length us) (Z:Qab w B us rs) (U:∀r∈rs,r.length=m) (h1:1<=m) (M:m<=100) (H:rs.length<=100) (K:p<m) (O:q<m) (F:∀r∈rs,Qaz (vAt r q).2.1) (J:∀r∈rs,∀x∈r,x.2.2.size<=maxLen) (I:B<=w.heap.size) (hS:∀g∈Qeq p q (Qa8 [p] rs),Qaz g.2):
 Calls Tryz.prog 148 #[v,.int .i64 p,.int .i64 q,.string ⟨#[109,97,120]⟩] w fun e w'=>Below B w w'/\Kept v w w'/\∃D y,e=.returned (.tuple #[D,.nilIface])/\w'.ownsRow B 84 1 D (QaA (Qeq p q (Qa8 [p] rs))).length y/\Qab w' B y (QaA (Qeq p q (Qa8 [p] rs))):=by
 refine(QfJ v us rs B m p q w V Z U h1 M H K O F J I).mono ?_;rintro e w' ⟨a,b,⟨-,D,y,N,c,d⟩|⟨h,-⟩⟩
 ·exact⟨a,b,D,y,N,c,d⟩
 ·exact absurd hS h
theorem grouped_bad (v:Value) (us:List Value) (rs:List (List Vl)) (B m p q:Nat) (w:World) (M:w.ownsRow B 84 1 v rs.length us) (U:Qab w B us rs) (N:∀r∈rs,r.length=m) (V:1<=m) (J:m<=100) (D:rs.length<=100) (I:p<m) (K:q<m) (y:∀r∈rs,Qaz (vAt r q).2.1) (H:∀r∈rs,∀x∈r,x.2.2.size<=maxLen) (F:B<=w.heap.size) (O:¬∀g∈Qeq p q (Qa8 [p] rs),Qaz g.2):
 Calls Tryz.prog 148 #[v,.int .i64 p,.int .i64 q,.string ⟨#[109,97,120]⟩] w fun e w'=>Below B w w'/\Kept v w w'/\e=.returned (.tuple #[.slice none 0 0,QbK 2]):=by
 refine(QfJ v us rs B m p q w M U N V J D I K y H F).mono ?_;rintro e w' ⟨a,b,⟨h,-⟩|⟨-,h⟩⟩
 ·exact absurd h O
 ·exact⟨a,b,h⟩
theorem rowsOf_group_ok (tb I tk tcap h no cc p q:Nat) (vc vr:Value) (cs:List Cl) (rs:List (List Vl)) (x y:ByteArray) (j:Jb) (w:World) (N:j.code=8) (aq:j.op=⟨#[109,97,120]⟩) (hj:j.cols=.slice (some ⟨h,no,none⟩) 2 cc) (aE:h<w.heap.size) (s0:w.cell? ⟨h,no,none⟩=some (.string x)) (s1:w.cell? ⟨h,no+1,none⟩=some (.string y)) (hp:Qaq cs x.data.toList=some p) (hq:Qaq cs y.data.toList=some q) (bw:0<tk) (ai:tb<w.heap.size) (t0:w.cell? ⟨tb,I,none⟩=some vc) (t1:w.cell? ⟨tb,I+1,none⟩=some vr)
 (hc:Qax w vc cs) (hr:QaG w vr rs) (h1:1<=cs.length) (h6:cs.length<=40) (hl:∀r∈rs,r.length=cs.length) (aA:rs.length<=100) (ar:∀r∈rs,Qaz (vAt r q).2.1) (ax:∀r∈rs,∀x∈r,x.2.2.size<=maxLen) (hS:∀g∈Qeq p q (Qa8 [p] rs),Qaz g.2):
 Calls Tryz.prog 102 #[.agg j.cells,.slice (some ⟨tb,I,none⟩) tk tcap] w fun e w'=>∃v1 us1,e=.returned (.tuple #[v1,.slice none 0 0,.nilIface])/\w'.ownsRow w.heap.size 84 1 v1 (QaA (Qeq p q (Qa8 [p] rs))).length us1/\Qab w' w.heap.size us1 (QaA (Qeq p q (Qa8 [p] rs)))/\Below w.heap.size w w':=by
 have bx:=mkF;have aB:=Hk (fun W (hW:Below w.heap.size w W)=>Qa0 vr rs cs.length W (hr.below hW) hl h1 (by omega) aA);have a3:=Qap hp;have a7:=Qap hq;have aZ:=Hk (fun(v:Value) (us:List Value) W (hv:W.ownsRow (w.heap.size+1) 84 1 v rs.length us) (hH:Qab W (w.heap.size+1) us rs) (hs:w.heap.size+1<=W.heap.size)=>grouped_ok v us rs (w.heap.size+1) cs.length p q W hv hH hl h1 (by omega) aA a3 a7 ar ax hs hS);obtain⟨K,M,F,rfl,ah,aa⟩:=QbF hc h1;have aC:Hid (∀(v:Value) (nm:ByteArray) (k:Int) (W:World),Below w.heap.size w W->(v=.slice (some ⟨K,M,none⟩) cs.length F/\nm=x/\k=(p:Int)\/v=.slice (some ⟨K,M,none⟩) cs.length F/\nm=y/\k=(q:Int))->Calls Tryz.prog 133 #[v,.string nm] W fun e w'=>e=.returned (.int .i64 k)/\Below W.heap.size W w'):=by
  refine Hk ?_;rintro v nm k W hW (⟨rfl,rfl,rfl⟩|⟨rfl,rfl,rfl⟩)
  ·rw[<-QaN hp];exact QaH K M cs.length F cs nm W rfl (by omega) (by have:=hW.size;omega) (aa.below hW ah)
  ·rw[<-QaN hq];exact QaH K M cs.length F cs nm W rfl (by omega) (by have:=hW.size;omega) (aa.below hW ah)
 have htk':(0:Int)<(tk:Int):=by omega
 clear hl hc aa hp hq ar ax;obtain⟨ra,aX,rfl,-⟩:=hr;have ay:QaC (w.alloc (.cells j.cells 50)) w.heap.size j:=fun k v hk=>by rw[World.cell?_alloc_at _ _ _ _ rfl];exact hk
 have O:=Hk ay;clear ay;unfold Jb.cells at O⊢;rw[N,hj,aq] at O⊢;have al:=Hk (Ai N (Ai hj aq));clear N hj aq
 all_goals
  go_enter Tryz.func102,Tryz.ntmps102;go_wp2_with fail
  go_cut [7,8] (fun p v wx=>∃(J:Nat) (us:List Value),p=.pointer (some ⟨J,0,none⟩)/\wx.cell? ⟨J,0,none⟩=some (.slice (some ⟨K,M,none⟩) cs.length F)/\J<wx.heap.size/\wx.ownsRow (w.heap.size+1) 84 1 v rs.length us/\Qab wx (w.heap.size+1) us rs/\QaC wx w.heap.size j/\Below w.heap.size w wx/\v.ownBlock≠some J)
  case first=>
   go_region_held3 (fun w'=>w'.cell? ⟨tb,I,none⟩=some (.slice (some ⟨K,M,none⟩) cs.length F)/\w'.cell? ⟨tb,I+1,none⟩=some (.slice ra rs.length aX))
    (first|(go_keep;done)|exact⟨(World.cell?_setCell_other _ _ _ _ (by intro e;simp at e;try omega)).trans k0,(World.cell?_setCell_other _ _ _ _ (by intro e;simp at e;try omega)).trans k1⟩)
    (first|(go_at_call 137;refine(aB.out _ (by first|exact(Qaa _ _).drew|exact(bel_box (Qaa _ _) _).drew)).mono ?_;rintro e w1 ⟨v1,us,rfl,ac,aw,D⟩;have H:=bel_then (show Below w.heap.size w _ from(by first|exact(Qaa _ _).drew|exact(bel_box (Qaa _ _) _).drew)) D;have k0:=cK H ai t0;have k1:=cK H ai t1;have bz:tb<w1.heap.size:=Nat.lt_of_lt_of_le ai H.size;(try(have kb:=(D.cell (p:=⟨w.heap.size+1,0,none⟩) (by simp)).trans (show _=some (Value.slice none 0 0) by simp);have kf:=(D.frozen (p:=⟨w.heap.size+1,0,none⟩) (by simp)).trans (show _=false by simp);have kz:w.heap.size+1<w1.heap.size:=by(have:=D.size;simp at this;omega)))))
   all_goals go_wp2_with fail
   all_goals go_meet
   ·have ap:QaC w1 w.heap.size j:=fun k v hk=>(D.cell (p:=⟨w.heap.size,k,none⟩) (by simp)).trans (by simpa using O.out k v hk)
    exact⟨w1.heap.size,us,rfl,by simp,by simp,(own_mono (by simp) ac).alloc _,(aw.mono (by simp)).below (Qaa _ _),ap.below (Qaa _ _) (by have:=D.size;simp at this;omega),bel_box H _,Qdo ac⟩
   ·have ap:QaC w1 w.heap.size j:=fun k v hk=>(D.cell (p:=⟨w.heap.size,k,none⟩) (by simp;omega)).trans (by simpa using O.out k v hk)
    exact⟨w.heap.size+1,us,rfl,World.cell?_setCell_same _ _ _ kb,by simpa using kz,own_mono (by simp) (ownsRow_setCell_below ac (by simp) _),(Qab.set aw (by simp)).mono (by simp),fun k v hk=>(World.cell?_setCell_other _ _ _ _ (by intro e;simp at e)).trans (ap k v hk),H.setCell (by show w.heap.size<=w.heap.size+1;omega) _,QcP ac (by simp)⟩
  case rest=>
   obtain⟨J,us,rfl,a8,am,hv,hH,hJ,Z,af⟩:=hcut;have bv:=Z.size;have j1:wc.cell? ⟨w.heap.size,1,none⟩=some (.int .i64 8):=by have:=hJ 1 (.int .i64 j.code) rfl;rw[al.out.1] at this;exact this
   have j4:wc.cell? ⟨w.heap.size,4,none⟩=some (.slice (some ⟨h,no,none⟩) 2 cc):=by have:=hJ 4 j.cols rfl;rw[al.out.2.1] at this;exact this
   have j5:wc.cell? ⟨w.heap.size,5,none⟩=some (.string ⟨#[109,97,120]⟩):=by have:=hJ 5 (.string j.op) rfl;rw[al.out.2.2] at this;exact this
   have av:=hJ.lt;have z4:=cK Z aE s0;have z5:=cK Z aE s1;have KX:Hid (∀V,Below wc.heap.size wc V->V.cell? ⟨J,0,none⟩=some (.slice (some ⟨K,M,none⟩) cs.length F)/\V.cell? ⟨w.heap.size,4,none⟩=some (.slice (some ⟨h,no,none⟩) 2 cc)/\V.cell? ⟨w.heap.size,5,none⟩=some (.string ⟨#[109,97,120]⟩)/\V.cell? ⟨h,no,none⟩=some (.string x)/\V.cell? ⟨h,no+1,none⟩=some (.string y)):=Hk (fun V hV=>⟨cK hV am a8,cK hV av j4,cK hV av j5,cK hV (by omega) z4,cK hV (by omega) z5⟩);have HB:=Hk (Ai Z (Ai hv hH));obtain⟨xa,xc,rfl⟩:=own_slice hv;have KY:Hid (∀V V',Below wc.heap.size wc V->Below (w.heap.size+1) V V'->Kept (.slice xa rs.length xc) V V'->V'.cell? ⟨J,0,none⟩=some (.slice (some ⟨K,M,none⟩) cs.length F)/\V'.cell? ⟨w.heap.size,4,none⟩=some (.slice (some ⟨h,no,none⟩) 2 cc)/\V'.cell? ⟨w.heap.size,5,none⟩=some (.string ⟨#[109,97,120]⟩)/\V'.cell? ⟨h,no,none⟩=some (.string x)/\V'.cell? ⟨h,no+1,none⟩=some (.string y)):=Hk (fun V V' hV hV' hk=>by
    obtain⟨y0,y1,y2,y3,y4⟩:=KX.out V hV;have hs:=hV.size;exact⟨(hk ⟨J,0,none⟩ (Nat.lt_of_lt_of_le am hs) af).trans y0,cK hV' (by omega) y1,cK hV' (by omega) y2,cK hV' (by omega) y3,cK hV' (by omega) y4⟩)
   clear Z hv hH hJ aB O t0 t1 s0 s1 af;have ak:=Hk (Ai (show Below wc.heap.size wc wc.drew from(Below.refl _ _).drew) HB.out.1.drew);go_wp2_with fail
   go_region_held3 (fun V=>V.cell? ⟨J,0,none⟩=some (.slice (some ⟨K,M,none⟩) cs.length F)/\V.cell? ⟨w.heap.size,4,none⟩=some (.slice (some ⟨h,no,none⟩) 2 cc)/\V.cell? ⟨w.heap.size,5,none⟩=some (.string ⟨#[109,97,120]⟩)/\V.cell? ⟨h,no,none⟩=some (.string x)/\V.cell? ⟨h,no+1,none⟩=some (.string y))
    (first|(go_keep;done)|exact KY.out _ _ U.out aG.out bd.out|exact KX.out _ U.out|exact KX.out _ aI.out)
    (first|(go_at_call 148;refine(aZ.out _ us _ (owns_below HB.out.2.1 U.out) (HB.out.2.2.below U.out) (by have:=U.out.size;omega)).mono ?_;rintro e w3 ⟨aF,az,v3,a5,rfl,aJ,aK⟩;have aG:=Hk aF;have bd:=Hk az;have aL:=Hk (Ai aJ aK);clear aF az aJ aK)|(go_at_call 133;refine(aC.out _ _ _ _ aH.out (by first|exact Or.inl ⟨rfl,rfl,rfl⟩|exact Or.inr ⟨rfl,rfl,rfl⟩)).mono ?_;rintro e w2 ⟨rfl,aD⟩;have U:=Hk (bel_then aI.out aD);have a2:=Hk (bel_then aH.out aD))|(go_at_call 133;refine(aC.out _ _ _ _ ak.out.2 (by first|exact Or.inl ⟨rfl,rfl,rfl⟩|exact Or.inr ⟨rfl,rfl,rfl⟩)).mono ?_;rintro e w1 ⟨rfl,D⟩;have aI:=Hk (bel_then ak.out.1 D);have aH:=Hk (bel_then ak.out.2 D)))
   go_wp2
   go_ret3
   exact⟨_,a5,rfl,own_mono (by omega) aL.out.1,aL.out.2.mono (by omega),a2.out.trans (aG.out.mono (Nat.le_succ _))⟩
theorem rowsOf_group_bad (tb I tk tcap h no cc p q:Nat) (vc vr:Value) (cs:List Cl) (rs:List (List Vl)) (x y:ByteArray) (j:Jb) (w:World) (N:j.code=8) (aq:j.op=⟨#[109,97,120]⟩) (hj:j.cols=.slice (some ⟨h,no,none⟩) 2 cc) (aE:h<w.heap.size) (s0:w.cell? ⟨h,no,none⟩=some (.string x)) (s1:w.cell? ⟨h,no+1,none⟩=some (.string y)) (hp:Qaq cs x.data.toList=some p) (hq:Qaq cs y.data.toList=some q) (br:0<tk) (ai:tb<w.heap.size) (t0:w.cell? ⟨tb,I,none⟩=some vc) (t1:w.cell? ⟨tb,I+1,none⟩=some vr)
 (hc:Qax w vc cs) (hr:QaG w vr rs) (h1:1<=cs.length) (h6:cs.length<=40) (hl:∀r∈rs,r.length=cs.length) (aA:rs.length<=100) (ar:∀r∈rs,Qaz (vAt r q).2.1) (ax:∀r∈rs,∀x∈r,x.2.2.size<=maxLen) (hS:¬∀g∈Qeq p q (Qa8 [p] rs),Qaz g.2):
 Calls Tryz.prog 102 #[.agg j.cells,.slice (some ⟨tb,I,none⟩) tk tcap] w fun e w'=>e=.returned (.tuple #[.slice none 0 0,.slice none 0 0,QbK 2])/\Below w.heap.size w w':=by
 have bs:=mkF;have aB:=Hk (fun W (hW:Below w.heap.size w W)=>Qa0 vr rs cs.length W (hr.below hW) hl h1 (by omega) aA);have aZ:=Qap hp;have a2:=Qap hq;have aV:=Hk (fun(v:Value) (us:List Value) W (hv:W.ownsRow (w.heap.size+1) 84 1 v rs.length us) (hH:Qab W (w.heap.size+1) us rs) (hs:w.heap.size+1<=W.heap.size)=>grouped_bad v us rs (w.heap.size+1) cs.length p q W hv hH hl h1 (by omega) aA aZ a2 ar ax hs hS);obtain⟨K,M,F,rfl,ah,aa⟩:=QbF hc h1;have aC:Hid (∀(v:Value) (nm:ByteArray) (k:Int) (W:World),Below w.heap.size w W->(v=.slice (some ⟨K,M,none⟩) cs.length F/\nm=x/\k=(p:Int)\/v=.slice (some ⟨K,M,none⟩) cs.length F/\nm=y/\k=(q:Int))->Calls Tryz.prog 133 #[v,.string nm] W fun e w'=>e=.returned (.int .i64 k)/\Below W.heap.size W w'):=by
  refine Hk ?_;rintro v nm k W hW (⟨rfl,rfl,rfl⟩|⟨rfl,rfl,rfl⟩)
  ·rw[<-QaN hp];exact QaH K M cs.length F cs nm W rfl (by omega) (by have:=hW.size;omega) (aa.below hW ah)
  ·rw[<-QaN hq];exact QaH K M cs.length F cs nm W rfl (by omega) (by have:=hW.size;omega) (aa.below hW ah)
 have htk':(0:Int)<(tk:Int):=by omega
 clear hl hc aa hp hq ar ax;obtain⟨ra,aT,rfl,-⟩:=hr;have ay:QaC (w.alloc (.cells j.cells 50)) w.heap.size j:=fun k v hk=>by rw[World.cell?_alloc_at _ _ _ _ rfl];exact hk
 have O:=Hk ay;clear ay;unfold Jb.cells at O⊢;rw[N,hj,aq] at O⊢;have al:=Hk (Ai N (Ai hj aq));clear N hj aq
 all_goals
  go_enter Tryz.func102,Tryz.ntmps102;go_wp2_with fail
  go_cut [7,8] (fun p v wx=>∃(J:Nat) (us:List Value),p=.pointer (some ⟨J,0,none⟩)/\wx.cell? ⟨J,0,none⟩=some (.slice (some ⟨K,M,none⟩) cs.length F)/\J<wx.heap.size/\wx.ownsRow (w.heap.size+1) 84 1 v rs.length us/\Qab wx (w.heap.size+1) us rs/\QaC wx w.heap.size j/\Below w.heap.size w wx/\v.ownBlock≠some J)
  case first=>
   go_region_held3 (fun w'=>w'.cell? ⟨tb,I,none⟩=some (.slice (some ⟨K,M,none⟩) cs.length F)/\w'.cell? ⟨tb,I+1,none⟩=some (.slice ra rs.length aT))
    (first|(go_keep;done)|exact⟨(World.cell?_setCell_other _ _ _ _ (by intro e;simp at e;try omega)).trans k0,(World.cell?_setCell_other _ _ _ _ (by intro e;simp at e;try omega)).trans k1⟩)
    (first|(go_at_call 137;refine(aB.out _ (by first|exact(Qaa _ _).drew|exact(bel_box (Qaa _ _) _).drew)).mono ?_;rintro e w1 ⟨v1,us,rfl,ac,aw,D⟩;have H:=bel_then (show Below w.heap.size w _ from(by first|exact(Qaa _ _).drew|exact(bel_box (Qaa _ _) _).drew)) D;have k0:=cK H ai t0;have k1:=cK H ai t1;have bt:tb<w1.heap.size:=Nat.lt_of_lt_of_le ai H.size;(try(have kb:=(D.cell (p:=⟨w.heap.size+1,0,none⟩) (by simp)).trans (show _=some (Value.slice none 0 0) by simp);have kf:=(D.frozen (p:=⟨w.heap.size+1,0,none⟩) (by simp)).trans (show _=false by simp);have kz:w.heap.size+1<w1.heap.size:=by(have:=D.size;simp at this;omega)))))
   all_goals go_wp2_with fail
   all_goals go_meet
   ·have ap:QaC w1 w.heap.size j:=fun k v hk=>(D.cell (p:=⟨w.heap.size,k,none⟩) (by simp)).trans (by simpa using O.out k v hk)
    exact⟨w1.heap.size,us,rfl,by simp,by simp,(own_mono (by simp) ac).alloc _,(aw.mono (by simp)).below (Qaa _ _),ap.below (Qaa _ _) (by have:=D.size;simp at this;omega),bel_box H _,Qdo ac⟩
   ·have ap:QaC w1 w.heap.size j:=fun k v hk=>(D.cell (p:=⟨w.heap.size,k,none⟩) (by simp;omega)).trans (by simpa using O.out k v hk)
    exact⟨w.heap.size+1,us,rfl,World.cell?_setCell_same _ _ _ kb,by simpa using kz,own_mono (by simp) (ownsRow_setCell_below ac (by simp) _),(Qab.set aw (by simp)).mono (by simp),fun k v hk=>(World.cell?_setCell_other _ _ _ _ (by intro e;simp at e)).trans (ap k v hk),H.setCell (by show w.heap.size<=w.heap.size+1;omega) _,QcP ac (by simp)⟩
  case rest=>
   obtain⟨J,us,rfl,a3,am,hv,hH,hJ,Z,af⟩:=hcut;have bq:=Z.size;have j1:wc.cell? ⟨w.heap.size,1,none⟩=some (.int .i64 8):=by have:=hJ 1 (.int .i64 j.code) rfl;rw[al.out.1] at this;exact this
   have j4:wc.cell? ⟨w.heap.size,4,none⟩=some (.slice (some ⟨h,no,none⟩) 2 cc):=by have:=hJ 4 j.cols rfl;rw[al.out.2.1] at this;exact this
   have j5:wc.cell? ⟨w.heap.size,5,none⟩=some (.string ⟨#[109,97,120]⟩):=by have:=hJ 5 (.string j.op) rfl;rw[al.out.2.2] at this;exact this
   have av:=hJ.lt;have z4:=cK Z aE s0;have z5:=cK Z aE s1;have KX:Hid (∀V,Below wc.heap.size wc V->V.cell? ⟨J,0,none⟩=some (.slice (some ⟨K,M,none⟩) cs.length F)/\V.cell? ⟨w.heap.size,4,none⟩=some (.slice (some ⟨h,no,none⟩) 2 cc)/\V.cell? ⟨w.heap.size,5,none⟩=some (.string ⟨#[109,97,120]⟩)/\V.cell? ⟨h,no,none⟩=some (.string x)/\V.cell? ⟨h,no+1,none⟩=some (.string y)):=Hk (fun V hV=>⟨cK hV am a3,cK hV av j4,cK hV av j5,cK hV (by omega) z4,cK hV (by omega) z5⟩);have HB:=Hk (Ai Z (Ai hv hH));obtain⟨xa,xc,rfl⟩:=own_slice hv;have KY:Hid (∀V V',Below wc.heap.size wc V->Below (w.heap.size+1) V V'->Kept (.slice xa rs.length xc) V V'->V'.cell? ⟨J,0,none⟩=some (.slice (some ⟨K,M,none⟩) cs.length F)/\V'.cell? ⟨w.heap.size,4,none⟩=some (.slice (some ⟨h,no,none⟩) 2 cc)/\V'.cell? ⟨w.heap.size,5,none⟩=some (.string ⟨#[109,97,120]⟩)/\V'.cell? ⟨h,no,none⟩=some (.string x)/\V'.cell? ⟨h,no+1,none⟩=some (.string y)):=Hk (fun V V' hV hV' hk=>by
    obtain⟨y0,y1,y2,y3,y4⟩:=KX.out V hV;have hs:=hV.size;exact⟨(hk ⟨J,0,none⟩ (Nat.lt_of_lt_of_le am hs) af).trans y0,cK hV' (by omega) y1,cK hV' (by omega) y2,cK hV' (by omega) y3,cK hV' (by omega) y4⟩)
   clear Z hv hH hJ aB O t0 t1 s0 s1 af;have ak:=Hk (Ai (show Below wc.heap.size wc wc.drew from(Below.refl _ _).drew) HB.out.1.drew);go_wp2_with fail
   go_region_held3 (fun V=>V.cell? ⟨J,0,none⟩=some (.slice (some ⟨K,M,none⟩) cs.length F)/\V.cell? ⟨w.heap.size,4,none⟩=some (.slice (some ⟨h,no,none⟩) 2 cc)/\V.cell? ⟨w.heap.size,5,none⟩=some (.string ⟨#[109,97,120]⟩)/\V.cell? ⟨h,no,none⟩=some (.string x)/\V.cell? ⟨h,no+1,none⟩=some (.string y))
    (first|(go_keep;done)|exact KY.out _ _ U.out aG.out a6.out|exact KX.out _ U.out|exact KX.out _ aI.out)
    (first|(go_at_call 148;refine(aV.out _ us _ (owns_below HB.out.2.1 U.out) (HB.out.2.2.below U.out) (by have:=U.out.size;omega)).mono ?_;rintro e w3 ⟨aF,az,rfl⟩;have aG:=Hk aF;have a6:=Hk az;clear aF az)|(go_at_call 133;refine(aC.out _ _ _ _ aH.out (by first|exact Or.inl ⟨rfl,rfl,rfl⟩|exact Or.inr ⟨rfl,rfl,rfl⟩)).mono ?_;rintro e w2 ⟨rfl,aD⟩;have U:=Hk (bel_then aI.out aD);have aY:=Hk (bel_then aH.out aD))|(go_at_call 133;refine(aC.out _ _ _ _ ak.out.2 (by first|exact Or.inl ⟨rfl,rfl,rfl⟩|exact Or.inr ⟨rfl,rfl,rfl⟩)).mono ?_;rintro e w1 ⟨rfl,D⟩;have aI:=Hk (bel_then ak.out.1 D);have aH:=Hk (bel_then ak.out.2 D)))
   go_wp2
   go_ret3
   exact⟨rfl,aY.out.trans (aG.out.mono (Nat.le_succ _))⟩
def grpOf (t:Tb) (x y:ByteArray):List Gr:=Qeq (pOf t.1 x) (pOf t.1 y) (Qa8 [pOf t.1 x] t.2)
def grpT (t:Tb) (x y:ByteArray):Tb:=(Qbc [pOf t.1 x,pOf t.1 y] t.1,QaA (grpOf t x y))
open Classical in
noncomputable def grpNo (t:Tb) (x y:ByteArray):Int:=if Qae t.1 t.2=false then 1 else if QaM t.1 x y≠0 then QaM t.1 x y else if∀g∈grpOf t x y,Qaz g.2 then 0 else 2
theorem grpNo_0 {t:Tb} {x y:ByteArray} (h:grpNo t x y=0):Qae t.1 t.2=true/\QaM t.1 x y=0/\∀g∈grpOf t x y,Qaz g.2:=by
 unfold grpNo at h;split at h
 ·cases h
 ·rename_i F
  split at h
  ·rename_i D;exact absurd h D
  ·rename_i D
   split at h
   ·rename_i H
    exact⟨by simpa using F,by simpa using D,H⟩
   ·cases h
theorem grp_wrong {t:Tb} {x y:ByteArray} {j:Jb} {W:World} {B g D:Nat} {us:List Value} (I:j.code=8) (O:j.op=⟨#[109,97,120]⟩) (hr:Qae t.1 t.2=true) (hs:Qcl W j.cols [x,y]) (ho:W.ownsRow B 51 1 (.slice (some ⟨g,0,none⟩) 1 D) 1 us) (hh:QaE W us [t.1]):∀h,Below W.heap.size W h->Calls Tryz.prog 96 #[.agg j.cells,.slice (some ⟨g,0,none⟩) 1 D] h fun e w'=>e=.returned (QbK (QaM t.1 x y))/\Below h.heap.size h w':=by
 intro h F;obtain⟨V,ai,aj,ah⟩:=Qam hr;obtain⟨b,o,c,M,K,J,N⟩:=Qcq ho hh V;refine QfK g 0 1 D b o t.1.length c j _ h I (by decide) (Nat.lt_of_lt_of_le K F.size) (cK F K M) (fun W2 hW2=>?_);have H:=bel_then F hW2;obtain⟨nb,no,Z,e,U,s0,s1⟩:=(strs_two hs).below H;exact group_any b o t.1.length c nb no Z t.1 x y j W2 e O U s0 s1 rfl (by omega) (Nat.lt_of_lt_of_le J H.size) (N.below H J)
theorem grp_cols {t:Tb} {x y:ByteArray} {j:Jb} {oa:Option Addr} {K:Nat} {w:World} (h:j.code=8) (N:j.op=⟨#[109,97,120]⟩) (I:j.outs=.slice oa 1 K) (hs:Qcl w j.cols [x,y]) (Z:Qae t.1 t.2=true) (he:QaM t.1 x y=0):∀W B g D us,Below w.heap.size w W->W.ownsRow B 51 1 (.slice (some ⟨g,0,none⟩) [t].length D) [t].length us->QaE W us ([t].map (·.1))->Calls Tryz.prog 59 #[.agg j.cells,.slice (some ⟨g,0,none⟩) [t].length D] W fun e w'=>∃v us,e=.returned (.tuple #[v,.nilIface])/\w'.ownsRow W.heap.size 51 1 v 1 us/\Qbj w' W.heap.size us (grpT t x y).1/\Below W.heap.size W w':=by
 intro W B g D us O U V;have aa:Qa1 j.code=(((1:Nat):Int),((1:Nat):Int)):=by rw[h];rfl
 obtain⟨ac,af,ag,ae⟩:=Qam Z;obtain⟨b,o,c,J,H,F,M⟩:=Qcq U V ac;refine cols_ok _ oa D K j 1 1 (grpT t x y).1 W I aa (by decide) (by decide) (fun W' hW'=>?_) (fun W' hW'=>QcQ g 0 1 D b o t.1.length c t.1 [x,y] j W' h (by decide) (Nat.lt_of_lt_of_le H hW'.size) (cK hW' H J) ((hs.below O).below hW') (grp_list he) rfl (by omega) (Nat.lt_of_lt_of_le F hW'.size) (M.below hW' F));have:=grp_wrong h N Z (hs.below O) U V W' hW';rw[he] at this;exact this
theorem do_grp_bad (tb h tcap:Nat) (t:Tb) (x y:ByteArray) (j:Jb) (oa:Option Addr) (Z:Nat) (w:World) (D:j.code=8) (J:j.op=⟨#[109,97,120]⟩) (K:j.outs=.slice oa 1 Z) (O:Qcl w j.cols [x,y]) (M:QaX w tb h [t]) (F:tb<w.heap.size) (U:grpNo t x y≠0):
 Calls Tryz.prog 61 #[.agg j.cells,.slice (some ⟨tb,h,none⟩) 1 tcap] w fun e w'=>e=.returned (.tuple #[.slice none 0 0,QbK (grpNo t x y)])/\Below w.heap.size w w':=by
 have ad:Qa1 j.code=(((1:Nat):Int),((1:Nat):Int)):=by rw[D];rfl
 cases hr:Qae t.1 t.2
 ·have:grpNo t x y=1:=by unfold grpNo;rw[if_pos hr]
  rw[this];exact QhC tb h tcap [t] j w M F (by simp) ⟨t,by simp,hr⟩
 ·have I:∀u∈[t],Qae u.1 u.2=true:=by intro u hu;simp at hu;rw[hu];exact hr
  by_cases he:QaM t.1 x y=0
  ·by_cases hS:∀g∈grpOf t x y,Qaz g.2
   ·exfalso;apply U;unfold grpNo;rw[if_neg (by simp[hr]),if_neg (by simpa using he),if_pos hS]
   ·have:grpNo t x y=2:=by unfold grpNo;rw[if_neg (by simp[hr]),if_neg (by simpa using he),if_neg hS]
    rw[this];obtain⟨ae,av,aw,V⟩:=Qam hr;obtain⟨vc,vr,c0,c1,hc,N⟩:=M 0 (by simp);obtain⟨hp,hq,-,-⟩:=QcR he;refine QiR tb h tcap [t] j w M F (by simp) (by simp) I (grpT t x y).1 1 2 (by decide) (grp_cols D J K O hr he) (fun W H=>?_);obtain⟨nb,no,cc,e,ab,s0,s1⟩:=(strs_two O).below H;exact rowsOf_group_bad tb h 1 tcap nb no cc _ _ vc vr t.1 t.2 x y j W D J e ab s0 s1 hp hq (by decide) (Nat.lt_of_lt_of_le F H.size) ((H.cell (p:=⟨tb,h,none⟩) F).trans (by simpa using c0)) ((H.cell (p:=⟨tb,h+1,none⟩) F).trans (by simpa using c1)) (hc.below H) (N.below H) ae (by omega) V (by omega) (Qe3 hr he) (Qdp N) hS
  ·have hn:grpNo t x y=QaM t.1 x y:=by unfold grpNo;rw[if_neg (by simp[hr]),if_pos he]
   rw[hn];refine QhD tb h tcap [t] j w M F (by simp) (by simp) I _ he ?_;intro W B g aa us H ho hh;exact Qdm _ oa aa Z j 1 1 _ W K ad (by decide) he (grp_wrong D J hr (O.below H) ho hh)
theorem grp_len (t:Tb) (x y:ByteArray):(QaA (grpOf t x y)).length<=t.2.length:=by
 have h:=QfH (pOf t.1 x) (pOf t.1 y) (Qa8 [pOf t.1 x] t.2);rw[QbG] at h;unfold QaA;rw[List.length_map];exact h
theorem do_grp_ok (tb h tcap:Nat) (t:Tb) (x y:ByteArray) (j:Jb) (oa:Option Addr) (oc:Nat) (w:World) (D:j.code=8) (I:j.op=⟨#[109,97,120]⟩) (K:j.outs=.slice oa 1 oc) (Z:Qcl w j.cols [x,y]) (O:QaX w tb h [t]) (F:tb<w.heap.size) (M:grpNo t x y=0):
 Calls Tryz.prog 61 #[.agg j.cells,.slice (some ⟨tb,h,none⟩) 1 tcap] w fun e w'=>∃g c,e=.returned (.tuple #[.slice (some ⟨g,0,none⟩) 1 c,.nilIface])/\w.heap.size<=g/\g<w'.heap.size/\QbP w' w.heap.size g [grpT t x y]/\Below w.heap.size w w':=by
 obtain⟨H,he,hS⟩:=grpNo_0 M;obtain⟨aa,aw,ax,N⟩:=Qam H;obtain⟨vc,vr,c0,c1,hc,J⟩:=O 0 (by simp);obtain⟨hp,hq,-,-⟩:=QcR he;refine QdU tb h tcap [t] j w O F (by simp) (by simp) (by intro u V;simp at V;rw[V];exact H) (grpT t x y).1 (grpT t x y).2 [] (by have:=grp_len t x y;show(QaA (grpOf t x y)).length<=60;omega) (Qgz (Qbo hc)) (grp_cols D I K Z H he) (fun W hW=>?_);obtain⟨nb,no,cc,e,U,s0,s1⟩:=(strs_two Z).below hW;refine(rowsOf_group_ok tb h 1 tcap nb no cc _ _ vc vr t.1 t.2 x y j W D I e U s0 s1 hp hq (by decide) (Nat.lt_of_lt_of_le F hW.size) ((hW.cell (p:=⟨tb,h,none⟩) F).trans (by simpa using c0)) ((hW.cell (p:=⟨tb,h+1,none⟩) F).trans (by simpa using c1)) (hc.below hW) (J.below hW) aa (by omega) N (by omega) (Qe3 H he) (Qdp J) hS).mono ?_;rintro e w' ⟨v1,ab,h1,h2,h3,hb⟩;exact⟨v1,.slice none 0 0,ab,[],h1,h2,h3,World.ownsRow_nil _ _ _ _,Qab.nil _ _,hb⟩
end Go.Proofs.YtjlgejennghhlaaGreatDoor.Mx
