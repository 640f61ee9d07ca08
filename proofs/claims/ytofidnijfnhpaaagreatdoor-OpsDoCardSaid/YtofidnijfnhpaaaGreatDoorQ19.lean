import Derived.Test.YtofidnijfnhpaaaGreatDoorQ01
import Derived.Test.YtofidnijfnhpaaaGreatDoorQ18
set_option linter.unusedSimpArgs false
set_option linter.unusedVariables false
set_option linter.unusedSectionVars false
set_option maxRecDepth 1000000
set_option maxHeartbeats 16000000
namespace Go.Proofs.YtofidnijfnhpaaaGreatDoor
open Go.RowKit
theorem Qc6 {w:World} {B n:Nat} {e:TypeId} {z:Nat} {v:Value} {j:List Value} (h:w.ownsRow B e z v n j):v.ownBlock≠some w.heap.size:=fun he=>by have:=(h.lt _ he).2;omega
theorem QcA {w:World} {B n k:Nat} {e:TypeId} {z:Nat} {v:Value} {j:List Value} (h:w.ownsRow B e z v n j) (o:k<B):v.ownBlock≠some k:=fun he=>by have:=(h.lt _ he).1;omega
theorem QcU (y B z A b o n c:Nat) (j:Jb) (r:Int) (w:World) (h:j.code=8) (F:0<z) (I:y<w.heap.size) (J:w.cell? ⟨y,B,none⟩=some (.slice (some ⟨b,o,none⟩) n c))
 (q:∀W,Below w.heap.size w W->Calls Tryz.prog 50 #[.agg j.cells,.slice (some ⟨b,o,none⟩) n c] W fun e w'=>e=.returned (Qbp r)/\Below W.heap.size W w'):
 Calls Tryz.prog 26 #[.agg j.cells,.slice (some ⟨y,B,none⟩) z A] w fun e w'=>e=.returned (Qbp r)/\Below w.heap.size w w':=by
 unfold Jb.cells at q⊢
 rw[h] at q⊢
 generalize Qbp r=ev at*
 have E:=Hk q
 have htk':(0:Int)<(z:Int):=by omega
 clear q h
 go_enter Tryz.func26,Tryz.ntmps26
 go_wp2_with (go_at_call 50;refine(E.out _ (Qab _ _)).mono ?_;rintro e K ⟨rfl,D⟩)
 go_ret
 exact⟨rfl,Qaa (Qab _ _) D⟩
theorem QcB (O ho J V b o n c:Nat) (cs:List Cl) (ss:List ByteArray) (j:Jb) (w:World) (A:j.code=8) (ay:0<J) (aA:O<w.heap.size) (h0:w.cell? ⟨O,ho,none⟩=some (.slice (some ⟨b,o,none⟩) n c)) (hs:QaX w j.cols ss) (he:QaB cs ss=0)
 (N:cs.length=n) (ag:n<=100) (I:b<w.heap.size) (T:Qas w b o cs):
 Calls Tryz.prog 27 #[.agg j.cells,.slice (some ⟨O,ho,none⟩) J V] w fun e w'=>∃u,e=.returned u/\w'.ownsRow w.heap.size 56 2 u (QaT (Qag cs ss) cs).length (Qap (QaT (Qag cs ss) cs))/\Below w.heap.size w w':=by
 obtain⟨U,l6,q⟩:=Qcb he
 obtain⟨ca,cc,Z,M,aa,z⟩:=hs
 rcases z with h|⟨nb,no,rfl,hl,z⟩
 ·rw[h] at U;simp at U
 have F:(Qag cs ss).length=ss.length:=by simp[Qag]
 have hT:=fun W (y:Below w.heap.size w W)=>Qdq nb no cc b o n c ss.length ss (Qag cs ss) cs W rfl (by omega) (by have:=y.size;omega) (z.below y hl) N ag (by have:=y.size;omega) (T.below y I) F (QcP q)
 have K:=fun W (y:Below w.heap.size w W) g gc (hg:g<W.heap.size) (hi:QbJ W g 0 (Qag cs ss))=>Qe9 b o c g 0 gc cs (Qag cs ss) W (T.below y I) (by have:=y.size;omega) hi hg (Qbu q) (by omega) (by omega)
 rw[N] at K
 rw[show(QaT (Qag cs ss) cs).length=(Qag cs ss).length by simp[QaT]]
 unfold Jb.cells
 rw[Z]
 obtain⟨code,E⟩:∃k,j.code=k:=⟨_,rfl⟩
 rw[E] at A⊢
 clear E
 subst A
 have D:0<(Qag cs ss).length:=by omega
 generalize ai:Qag cs ss=ks at*
 have HT:=Hk hT
 have HQ:=Hk K
 have htk':(0:Int)<(J:Int):=by omega
 have HK:=Hk D
 clear hT K N T Z z q F U l6 he ai D aa M
 go_enter Tryz.func27,Tryz.ntmps27
 go_wp2_with (first|(go_at_call 52;refine(HT.out _ (Qab _ _)).mono ?_;rintro e w1 ⟨v1,rfl,ac,B⟩;obtain⟨g,gc,rfl,az,ae,af⟩:=Qey ac HK.out)|(go_at_call 51;refine(HQ.out _ (Qaa (Qab _ _) B) _ _ ae af).mono ?_;rintro e w2 ⟨v2,rfl,aj,ad⟩))
 go_ret
 exact⟨_,rfl,Qam (by have:=B.size;simp at this;omega) aj,Qaa (Qaa (Qab _ _) B) ad⟩
theorem grouped_ok (v:Value) (us:List Value) (rs:List (List Vl)) (B m p q:Nat) (w:World) (O:w.ownsRow B 57 1 v rs.length us) (E:Qac w B us rs) (J:∀r∈rs,r.length=m) (K:1<=m) (M:m<=100) (A:rs.length<=100) (F:p<m) (I:q<m) (z:∀r∈rs,Qau (vAt r q).2.1) (hsz:∀r∈rs,∀x∈r,x.2.2.size<=maxLen) (D:B<=w.heap.size) (T:∀g∈QdN p q (QaR [p] rs),Qau g.2):
 Calls Tryz.prog 74 #[v,.int .i64 p,.int .i64 q,.string ⟨#[115,117,109]⟩] w fun e o=>Below B w o/\Qf8 v w o/\∃y j,e=.returned (.tuple #[y,.nilIface])/\o.ownsRow B 57 1 y (Qao (QdN p q (QaR [p] rs))).length j/\Qac o B j (Qao (QdN p q (QaR [p] rs))):=by
 refine(QeH v us rs B m p q w O E J K M A F I z hsz D).mono ?_
 rintro e o ⟨a,b,⟨-,y,j,N,c,d⟩|⟨h,-⟩⟩
 ·exact⟨a,b,y,j,N,c,d⟩
 ·exact absurd T h
theorem grouped_bad (v:Value) (us:List Value) (rs:List (List Vl)) (B m p q:Nat) (w:World) (K:w.ownsRow B 57 1 v rs.length us) (A:Qac w B us rs) (F:∀r∈rs,r.length=m) (I:1<=m) (J:m<=100) (y:rs.length<=100) (D:p<m) (E:q<m) (j:∀r∈rs,Qau (vAt r q).2.1) (hsz:∀r∈rs,∀x∈r,x.2.2.size<=maxLen) (z:B<=w.heap.size) (M:¬∀g∈QdN p q (QaR [p] rs),Qau g.2):
 Calls Tryz.prog 74 #[v,.int .i64 p,.int .i64 q,.string ⟨#[115,117,109]⟩] w fun e o=>Below B w o/\Qf8 v w o/\e=.returned (.tuple #[.slice none 0 0,Qbp 2]):=by
 refine(QeH v us rs B m p q w K A F I J y D E j hsz z).mono ?_
 rintro e o ⟨a,b,⟨h,-⟩|⟨-,h⟩⟩
 ·exact absurd h M
 ·exact⟨a,b,h⟩
theorem rowsOf_group_ok (I B tk tcap h no cc p q:Nat) (vc vr:Value) (cs:List Cl) (rs:List (List Vl)) (x y:ByteArray) (j:Jb) (w:World) (E:j.code=8) (ak:j.op=⟨#[115,117,109]⟩) (hj:j.cols=.slice (some ⟨h,no,none⟩) 2 cc) (ar:h<w.heap.size) (s0:w.cell? ⟨h,no,none⟩=some (.string x)) (s1:w.cell? ⟨h,no+1,none⟩=some (.string y)) (hp:Qak cs x.data.toList=some p) (hq:Qak cs y.data.toList=some q) (bu:0<tk) (ae:I<w.heap.size) (t0:w.cell? ⟨I,B,none⟩=some vc) (t1:w.cell? ⟨I,B+1,none⟩=some vr)
 (hc:Qav w vc cs) (hr:QaC w vr rs) (h1:1<=cs.length) (h6:cs.length<=40) (hl:∀r∈rs,r.length=cs.length) (aE:rs.length<=100) (ag:∀r∈rs,Qau (vAt r q).2.1) (hsz:∀r∈rs,∀x∈r,x.2.2.size<=maxLen) (hS:∀g∈QdN p q (QaR [p] rs),Qau g.2):
 Calls Tryz.prog 40 #[.agg j.cells,.slice (some ⟨I,B,none⟩) tk tcap] w fun e w'=>∃v1 us1,e=.returned (.tuple #[v1,.slice none 0 0,.nilIface])/\w'.ownsRow w.heap.size 57 1 v1 (Qao (QdN p q (QaR [p] rs))).length us1/\Qac w' w.heap.size us1 (Qao (QdN p q (QaR [p] rs)))/\Below w.heap.size w w':=by
 have bw:=mkF
 have aD:=Hk (fun W (T:Below w.heap.size w W)=>Qba vr rs cs.length W (hr.below T) hl h1 (by omega) aE)
 have a4:=Qaj hp
 have aT:=Qaj hq
 have a6:=Hk (fun(v:Value) (us:List Value) W (hv:W.ownsRow (w.heap.size+1) 57 1 v rs.length us) (hH:Qac W (w.heap.size+1) us rs) (hs:w.heap.size+1<=W.heap.size)=>grouped_ok v us rs (w.heap.size+1) cs.length p q W hv hH hl h1 (by omega) aE a4 aT ag hsz hs hS)
 obtain⟨b1,F,z,rfl,af,N⟩:=Qcp hc h1
 have az:Hid (∀(v:Value) (U:ByteArray) (k:Int) (W:World),Below w.heap.size w W->(v=.slice (some ⟨b1,F,none⟩) cs.length z/\U=x/\k=(p:Int)\/v=.slice (some ⟨b1,F,none⟩) cs.length z/\U=y/\k=(q:Int))->Calls Tryz.prog 54 #[v,.string U] W fun e w'=>e=.returned (.int .i64 k)/\Below W.heap.size W w'):=by
  refine Hk ?_
  rintro v U k W T (⟨rfl,rfl,rfl⟩|⟨rfl,rfl,rfl⟩)
  ·rw[<-Qaw hp]
   exact QaL b1 F cs.length z cs U W rfl (by omega) (by have:=T.size;omega) (N.below T af)
  ·rw[<-Qaw hq]
   exact QaL b1 F cs.length z cs U W rfl (by omega) (by have:=T.size;omega) (N.below T af)
 have htk':(0:Int)<(tk:Int):=by omega
 clear hl hc N hp hq ag hsz
 obtain⟨ra,aY,rfl,-⟩:=hr
 have ap:Qaz (w.alloc (.cells j.cells 28)) w.heap.size j:=fun k v hk=>by rw[World.cell?_alloc_at _ _ _ _ rfl];exact hk
 have M:=Hk ap
 clear ap
 unfold Jb.cells at M⊢
 rw[E,hj,ak] at M⊢
 have ad:=Hk (Ai E (Ai hj ak))
 clear E hj ak
 all_goals
  go_enter Tryz.func40,Tryz.ntmps40
  go_wp2_with fail
  go_cut [7,8] (fun p v wx=>∃(D:Nat) (us:List Value),p=.pointer (some ⟨D,0,none⟩)/\wx.cell? ⟨D,0,none⟩=some (.slice (some ⟨b1,F,none⟩) cs.length z)/\D<wx.heap.size/\wx.ownsRow (w.heap.size+1) 57 1 v rs.length us/\Qac wx (w.heap.size+1) us rs/\Qaz wx w.heap.size j/\Below w.heap.size w wx/\v.ownBlock≠some D)
  case first=>
   go_region_held3 (fun w'=>w'.cell? ⟨I,B,none⟩=some (.slice (some ⟨b1,F,none⟩) cs.length z)/\w'.cell? ⟨I,B+1,none⟩=some (.slice ra rs.length aY))
    (first|(go_keep;done)|exact⟨(World.cell?_setCell_other _ _ _ _ (by intro e;simp at e;try omega)).trans k0,(World.cell?_setCell_other _ _ _ _ (by intro e;simp at e;try omega)).trans k1⟩)
    (first|(go_at_call 63;refine(aD.out _ (by first|exact(Qab _ _).drew|exact(Qad (Qab _ _) _).drew)).mono ?_;rintro e Z ⟨v1,us,rfl,O,aA,o⟩;have A:=Qaa (show Below w.heap.size w _ from(by first|exact(Qab _ _).drew|exact(Qad (Qab _ _) _).drew)) o;have k0:=cK A ae t0;have k1:=cK A ae t1;have bt:I<Z.heap.size:=Nat.lt_of_lt_of_le ae A.size;(try(have kb:=(o.cell (p:=⟨w.heap.size+1,0,none⟩) (by simp)).trans (show _=some (Value.slice none 0 0) by simp);have kf:=(o.frozen (p:=⟨w.heap.size+1,0,none⟩) (by simp)).trans (show _=false by simp);have kz:w.heap.size+1<Z.heap.size:=by(have:=o.size;simp at this;omega)))))
   all_goals go_wp2_with fail
   all_goals go_meet
   ·have ac:Qaz Z w.heap.size j:=fun k v hk=>(o.cell (p:=⟨w.heap.size,k,none⟩) (by simp)).trans (by simpa using M.out k v hk)
    exact⟨Z.heap.size,us,rfl,by simp,by simp,(Qam (by simp) O).alloc _,(aA.mono (by simp)).below (Qab _ _),ac.below (Qab _ _) (by have:=o.size;simp at this;omega),Qad A _,Qc6 O⟩
   ·have ac:Qaz Z w.heap.size j:=fun k v hk=>(o.cell (p:=⟨w.heap.size,k,none⟩) (by simp;omega)).trans (by simpa using M.out k v hk)
    exact⟨w.heap.size+1,us,rfl,World.cell?_setCell_same _ _ _ kb,by simpa using kz,Qam (by simp) (ownsRow_setCell_below O (by simp) _),(Qac.set aA (by simp)).mono (by simp),fun k v hk=>(World.cell?_setCell_other _ _ _ _ (by intro e;simp at e)).trans (ac k v hk),A.setCell (by show w.heap.size<=w.heap.size+1;omega) _,QcA O (by simp)⟩
  case rest=>
   obtain⟨D,us,rfl,aZ,am,hv,hH,hJ,J,ai⟩:=hcut
   have bv:=J.size
   have j1:wc.cell? ⟨w.heap.size,1,none⟩=some (.int .i64 8):=by have:=hJ 1 (.int .i64 j.code) rfl;rw[ad.out.1] at this;exact this
   have j4:wc.cell? ⟨w.heap.size,4,none⟩=some (.slice (some ⟨h,no,none⟩) 2 cc):=by have:=hJ 4 j.cols rfl;rw[ad.out.2.1] at this;exact this
   have j5:wc.cell? ⟨w.heap.size,5,none⟩=some (.string ⟨#[115,117,109]⟩):=by have:=hJ 5 (.string j.op) rfl;rw[ad.out.2.2] at this;exact this
   have aC:=hJ.lt
   have z4:=cK J ar s0
   have z5:=cK J ar s1
   have KX:Hid (∀V,Below wc.heap.size wc V->V.cell? ⟨D,0,none⟩=some (.slice (some ⟨b1,F,none⟩) cs.length z)/\V.cell? ⟨w.heap.size,4,none⟩=some (.slice (some ⟨h,no,none⟩) 2 cc)/\V.cell? ⟨w.heap.size,5,none⟩=some (.string ⟨#[115,117,109]⟩)/\V.cell? ⟨h,no,none⟩=some (.string x)/\V.cell? ⟨h,no+1,none⟩=some (.string y)):=Hk (fun V hV=>⟨cK hV am aZ,cK hV aC j4,cK hV aC j5,cK hV (by omega) z4,cK hV (by omega) z5⟩)
   have HB:=Hk (Ai J (Ai hv hH))
   obtain⟨xa,xc,rfl⟩:=Qae hv
   have KY:Hid (∀V V',Below wc.heap.size wc V->Below (w.heap.size+1) V V'->Qf8 (.slice xa rs.length xc) V V'->V'.cell? ⟨D,0,none⟩=some (.slice (some ⟨b1,F,none⟩) cs.length z)/\V'.cell? ⟨w.heap.size,4,none⟩=some (.slice (some ⟨h,no,none⟩) 2 cc)/\V'.cell? ⟨w.heap.size,5,none⟩=some (.string ⟨#[115,117,109]⟩)/\V'.cell? ⟨h,no,none⟩=some (.string x)/\V'.cell? ⟨h,no+1,none⟩=some (.string y)):=Hk (fun V V' hV hV' hk=>by
    obtain⟨y0,y1,y2,y3,y4⟩:=KX.out V hV
    have hs:=hV.size
    exact⟨(hk ⟨D,0,none⟩ (Nat.lt_of_lt_of_le am hs) ai).trans y0,cK hV' (by omega) y1,cK hV' (by omega) y2,cK hV' (by omega) y3,cK hV' (by omega) y4⟩)
   clear J hv hH hJ aD M t0 t1 s0 s1 ai
   have al:=Hk (Ai (show Below wc.heap.size wc wc.drew from(Below.refl _ _).drew) HB.out.1.drew)
   go_wp2_with fail
   go_region_held3 (fun V=>V.cell? ⟨D,0,none⟩=some (.slice (some ⟨b1,F,none⟩) cs.length z)/\V.cell? ⟨w.heap.size,4,none⟩=some (.slice (some ⟨h,no,none⟩) 2 cc)/\V.cell? ⟨w.heap.size,5,none⟩=some (.string ⟨#[115,117,109]⟩)/\V.cell? ⟨h,no,none⟩=some (.string x)/\V.cell? ⟨h,no+1,none⟩=some (.string y))
    (first|(go_keep;done)|exact KY.out _ _ K.out av.out a5.out|exact KX.out _ K.out|exact KX.out _ ax.out)
    (first|(go_at_call 74;refine(a6.out _ us _ (Qaf HB.out.2.1 K.out) (HB.out.2.2.below K.out) (by have:=K.out.size;omega)).mono ?_;rintro e w3 ⟨ay,aG,v3,a7,rfl,aB,aH⟩;have av:=Hk ay;have a5:=Hk aG;have au:=Hk (Ai aB aH);clear ay aG aB aH)|(go_at_call 54;refine(az.out _ _ _ _ aq.out (by first|exact Or.inl ⟨rfl,rfl,rfl⟩|exact Or.inr ⟨rfl,rfl,rfl⟩)).mono ?_;rintro e w2 ⟨rfl,aw⟩;have K:=Hk (Qaa ax.out aw);have aV:=Hk (Qaa aq.out aw))|(go_at_call 54;refine(az.out _ _ _ _ al.out.2 (by first|exact Or.inl ⟨rfl,rfl,rfl⟩|exact Or.inr ⟨rfl,rfl,rfl⟩)).mono ?_;rintro e Z ⟨rfl,o⟩;have ax:=Hk (Qaa al.out.1 o);have aq:=Hk (Qaa al.out.2 o)))
   go_wp2
   go_ret3
   exact⟨_,a7,rfl,Qam (by omega) au.out.1,au.out.2.mono (by omega),aV.out.trans (av.out.mono (Nat.le_succ _))⟩
theorem rowsOf_group_bad (I B tk tcap h no cc p q:Nat) (vc vr:Value) (cs:List Cl) (rs:List (List Vl)) (x y:ByteArray) (j:Jb) (w:World) (E:j.code=8) (ak:j.op=⟨#[115,117,109]⟩) (hj:j.cols=.slice (some ⟨h,no,none⟩) 2 cc) (ar:h<w.heap.size) (s0:w.cell? ⟨h,no,none⟩=some (.string x)) (s1:w.cell? ⟨h,no+1,none⟩=some (.string y)) (hp:Qak cs x.data.toList=some p) (hq:Qak cs y.data.toList=some q) (bp:0<tk) (ae:I<w.heap.size) (t0:w.cell? ⟨I,B,none⟩=some vc) (t1:w.cell? ⟨I,B+1,none⟩=some vr)
 (hc:Qav w vc cs) (hr:QaC w vr rs) (h1:1<=cs.length) (h6:cs.length<=40) (hl:∀r∈rs,r.length=cs.length) (aC:rs.length<=100) (ag:∀r∈rs,Qau (vAt r q).2.1) (hsz:∀r∈rs,∀x∈r,x.2.2.size<=maxLen) (hS:¬∀g∈QdN p q (QaR [p] rs),Qau g.2):
 Calls Tryz.prog 40 #[.agg j.cells,.slice (some ⟨I,B,none⟩) tk tcap] w fun e w'=>e=.returned (.tuple #[.slice none 0 0,.slice none 0 0,Qbp 2])/\Below w.heap.size w w':=by
 have br:=mkF
 have aB:=Hk (fun W (T:Below w.heap.size w W)=>Qba vr rs cs.length W (hr.below T) hl h1 (by omega) aC)
 have aW:=Qaj hp
 have aP:=Qaj hq
 have aY:=Hk (fun(v:Value) (us:List Value) W (hv:W.ownsRow (w.heap.size+1) 57 1 v rs.length us) (hH:Qac W (w.heap.size+1) us rs) (hs:w.heap.size+1<=W.heap.size)=>grouped_bad v us rs (w.heap.size+1) cs.length p q W hv hH hl h1 (by omega) aC aW aP ag hsz hs hS)
 obtain⟨b1,F,z,rfl,af,N⟩:=Qcp hc h1
 have ay:Hid (∀(v:Value) (U:ByteArray) (k:Int) (W:World),Below w.heap.size w W->(v=.slice (some ⟨b1,F,none⟩) cs.length z/\U=x/\k=(p:Int)\/v=.slice (some ⟨b1,F,none⟩) cs.length z/\U=y/\k=(q:Int))->Calls Tryz.prog 54 #[v,.string U] W fun e w'=>e=.returned (.int .i64 k)/\Below W.heap.size W w'):=by
  refine Hk ?_
  rintro v U k W T (⟨rfl,rfl,rfl⟩|⟨rfl,rfl,rfl⟩)
  ·rw[<-Qaw hp]
   exact QaL b1 F cs.length z cs U W rfl (by omega) (by have:=T.size;omega) (N.below T af)
  ·rw[<-Qaw hq]
   exact QaL b1 F cs.length z cs U W rfl (by omega) (by have:=T.size;omega) (N.below T af)
 have htk':(0:Int)<(tk:Int):=by omega
 clear hl hc N hp hq ag hsz
 obtain⟨ra,aU,rfl,-⟩:=hr
 have ap:Qaz (w.alloc (.cells j.cells 28)) w.heap.size j:=fun k v hk=>by rw[World.cell?_alloc_at _ _ _ _ rfl];exact hk
 have M:=Hk ap
 clear ap
 unfold Jb.cells at M⊢
 rw[E,hj,ak] at M⊢
 have ad:=Hk (Ai E (Ai hj ak))
 clear E hj ak
 all_goals
  go_enter Tryz.func40,Tryz.ntmps40
  go_wp2_with fail
  go_cut [7,8] (fun p v wx=>∃(D:Nat) (us:List Value),p=.pointer (some ⟨D,0,none⟩)/\wx.cell? ⟨D,0,none⟩=some (.slice (some ⟨b1,F,none⟩) cs.length z)/\D<wx.heap.size/\wx.ownsRow (w.heap.size+1) 57 1 v rs.length us/\Qac wx (w.heap.size+1) us rs/\Qaz wx w.heap.size j/\Below w.heap.size w wx/\v.ownBlock≠some D)
  case first=>
   go_region_held3 (fun w'=>w'.cell? ⟨I,B,none⟩=some (.slice (some ⟨b1,F,none⟩) cs.length z)/\w'.cell? ⟨I,B+1,none⟩=some (.slice ra rs.length aU))
    (first|(go_keep;done)|exact⟨(World.cell?_setCell_other _ _ _ _ (by intro e;simp at e;try omega)).trans k0,(World.cell?_setCell_other _ _ _ _ (by intro e;simp at e;try omega)).trans k1⟩)
    (first|(go_at_call 63;refine(aB.out _ (by first|exact(Qab _ _).drew|exact(Qad (Qab _ _) _).drew)).mono ?_;rintro e Z ⟨v1,us,rfl,O,az,o⟩;have A:=Qaa (show Below w.heap.size w _ from(by first|exact(Qab _ _).drew|exact(Qad (Qab _ _) _).drew)) o;have k0:=cK A ae t0;have k1:=cK A ae t1;have bo:I<Z.heap.size:=Nat.lt_of_lt_of_le ae A.size;(try(have kb:=(o.cell (p:=⟨w.heap.size+1,0,none⟩) (by simp)).trans (show _=some (Value.slice none 0 0) by simp);have kf:=(o.frozen (p:=⟨w.heap.size+1,0,none⟩) (by simp)).trans (show _=false by simp);have kz:w.heap.size+1<Z.heap.size:=by(have:=o.size;simp at this;omega)))))
   all_goals go_wp2_with fail
   all_goals go_meet
   ·have ac:Qaz Z w.heap.size j:=fun k v hk=>(o.cell (p:=⟨w.heap.size,k,none⟩) (by simp)).trans (by simpa using M.out k v hk)
    exact⟨Z.heap.size,us,rfl,by simp,by simp,(Qam (by simp) O).alloc _,(az.mono (by simp)).below (Qab _ _),ac.below (Qab _ _) (by have:=o.size;simp at this;omega),Qad A _,Qc6 O⟩
   ·have ac:Qaz Z w.heap.size j:=fun k v hk=>(o.cell (p:=⟨w.heap.size,k,none⟩) (by simp;omega)).trans (by simpa using M.out k v hk)
    exact⟨w.heap.size+1,us,rfl,World.cell?_setCell_same _ _ _ kb,by simpa using kz,Qam (by simp) (ownsRow_setCell_below O (by simp) _),(Qac.set az (by simp)).mono (by simp),fun k v hk=>(World.cell?_setCell_other _ _ _ _ (by intro e;simp at e)).trans (ac k v hk),A.setCell (by show w.heap.size<=w.heap.size+1;omega) _,QcA O (by simp)⟩
  case rest=>
   obtain⟨D,us,rfl,aV,am,hv,hH,hJ,J,ai⟩:=hcut
   have bq:=J.size
   have j1:wc.cell? ⟨w.heap.size,1,none⟩=some (.int .i64 8):=by have:=hJ 1 (.int .i64 j.code) rfl;rw[ad.out.1] at this;exact this
   have j4:wc.cell? ⟨w.heap.size,4,none⟩=some (.slice (some ⟨h,no,none⟩) 2 cc):=by have:=hJ 4 j.cols rfl;rw[ad.out.2.1] at this;exact this
   have j5:wc.cell? ⟨w.heap.size,5,none⟩=some (.string ⟨#[115,117,109]⟩):=by have:=hJ 5 (.string j.op) rfl;rw[ad.out.2.2] at this;exact this
   have aA:=hJ.lt
   have z4:=cK J ar s0
   have z5:=cK J ar s1
   have KX:Hid (∀V,Below wc.heap.size wc V->V.cell? ⟨D,0,none⟩=some (.slice (some ⟨b1,F,none⟩) cs.length z)/\V.cell? ⟨w.heap.size,4,none⟩=some (.slice (some ⟨h,no,none⟩) 2 cc)/\V.cell? ⟨w.heap.size,5,none⟩=some (.string ⟨#[115,117,109]⟩)/\V.cell? ⟨h,no,none⟩=some (.string x)/\V.cell? ⟨h,no+1,none⟩=some (.string y)):=Hk (fun V hV=>⟨cK hV am aV,cK hV aA j4,cK hV aA j5,cK hV (by omega) z4,cK hV (by omega) z5⟩)
   have HB:=Hk (Ai J (Ai hv hH))
   obtain⟨xa,xc,rfl⟩:=Qae hv
   have KY:Hid (∀V V',Below wc.heap.size wc V->Below (w.heap.size+1) V V'->Qf8 (.slice xa rs.length xc) V V'->V'.cell? ⟨D,0,none⟩=some (.slice (some ⟨b1,F,none⟩) cs.length z)/\V'.cell? ⟨w.heap.size,4,none⟩=some (.slice (some ⟨h,no,none⟩) 2 cc)/\V'.cell? ⟨w.heap.size,5,none⟩=some (.string ⟨#[115,117,109]⟩)/\V'.cell? ⟨h,no,none⟩=some (.string x)/\V'.cell? ⟨h,no+1,none⟩=some (.string y)):=Hk (fun V V' hV hV' hk=>by
    obtain⟨y0,y1,y2,y3,y4⟩:=KX.out V hV
    have hs:=hV.size
    exact⟨(hk ⟨D,0,none⟩ (Nat.lt_of_lt_of_le am hs) ai).trans y0,cK hV' (by omega) y1,cK hV' (by omega) y2,cK hV' (by omega) y3,cK hV' (by omega) y4⟩)
   clear J hv hH hJ aB M t0 t1 s0 s1 ai
   have al:=Hk (Ai (show Below wc.heap.size wc wc.drew from(Below.refl _ _).drew) HB.out.1.drew)
   go_wp2_with fail
   go_region_held3 (fun V=>V.cell? ⟨D,0,none⟩=some (.slice (some ⟨b1,F,none⟩) cs.length z)/\V.cell? ⟨w.heap.size,4,none⟩=some (.slice (some ⟨h,no,none⟩) 2 cc)/\V.cell? ⟨w.heap.size,5,none⟩=some (.string ⟨#[115,117,109]⟩)/\V.cell? ⟨h,no,none⟩=some (.string x)/\V.cell? ⟨h,no+1,none⟩=some (.string y))
    (first|(go_keep;done)|exact KY.out _ _ K.out au.out aX.out|exact KX.out _ K.out|exact KX.out _ aw.out)
    (first|(go_at_call 74;refine(aY.out _ us _ (Qaf HB.out.2.1 K.out) (HB.out.2.2.below K.out) (by have:=K.out.size;omega)).mono ?_;rintro e w3 ⟨ax,aD,rfl⟩;have au:=Hk ax;have aX:=Hk aD;clear ax aD)|(go_at_call 54;refine(ay.out _ _ _ _ aq.out (by first|exact Or.inl ⟨rfl,rfl,rfl⟩|exact Or.inr ⟨rfl,rfl,rfl⟩)).mono ?_;rintro e w2 ⟨rfl,av⟩;have K:=Hk (Qaa aw.out av);have aR:=Hk (Qaa aq.out av))|(go_at_call 54;refine(ay.out _ _ _ _ al.out.2 (by first|exact Or.inl ⟨rfl,rfl,rfl⟩|exact Or.inr ⟨rfl,rfl,rfl⟩)).mono ?_;rintro e Z ⟨rfl,o⟩;have aw:=Hk (Qaa al.out.1 o);have aq:=Hk (Qaa al.out.2 o)))
   go_wp2
   go_ret3
   exact⟨rfl,aR.out.trans (au.out.mono (Nat.le_succ _))⟩
end Go.Proofs.YtofidnijfnhpaaaGreatDoor
