import Derived.Test.YtofidnijfnhpaaaGreatDoorQ01
import Derived.Test.YtofidnijfnhpaaaGreatDoorQ22
import Derived.Test.YtofidnijfnhpaaaGreatDoorQ04
set_option linter.unusedSimpArgs false
set_option linter.unusedVariables false
set_option linter.unusedSectionVars false
set_option maxRecDepth 1000000
set_option maxHeartbeats 16000000
namespace Go.Proofs.YtofidnijfnhpaaaGreatDoor.Mx
open Go.RowKit
theorem group_any (b o n c E I cc:Nat) (cs:List Cl) (x y:ByteArray) (j:Jb) (w:World) (hj:j.cols=.slice (some ⟨E,I,none⟩) 2 cc) (ai:j.op=⟨#[109,97,120]⟩) (Z:E<w.heap.size) (s0:w.cell? ⟨E,I,none⟩=some (.string x)) (s1:w.cell? ⟨E,I+1,none⟩=some (.string y))
 (hn:cs.length=n) (am:n<=100) (hb:b<w.heap.size) (hc:Qas w b o cs):
 Calls Tryz.prog 50 #[.agg j.cells,.slice (some ⟨b,o,none⟩) n c] w fun e w'=>e=.returned (Qbp (QaG cs x y))/\Below w.heap.size w w':=by
 have hP:=fun nm W (h1:Below w.heap.size w W)=>QaL b o n c cs nm W hn am (by have:=h1.size;omega) (hc.below h1 hb)
 have hJ:=Qbd w j 28
 have A:=Qab w (.cells j.cells 28)
 obtain⟨W,J⟩:∃W,W=w.alloc (.cells j.cells 28):=⟨_,rfl⟩
 rw[<-J] at hJ A
 have e4:=cell_regrown (show W.cell? ⟨w.heap.size,4,none⟩=some (.slice (some ⟨E,I,none⟩) 2 cc) from by have:=hJ 4 j.cols rfl;rw[hj] at this;exact this)
 have e5:=cell_regrown (cK A Z s0)
 have e6:=cell_regrown (cK A Z s1)
 have C1:∀nm d os,_:=fun nm d os=>Calls.regrown_of (hP nm (Sort.grow (redrawn W d) os) (Qaa A (below_regrown _ _ _)))
 have HB:=Hk A
 have HC:=Hk (Ai hn hc)
 obtain⟨P,M⟩:∃P,Qaq cs x.data.toList=P:=⟨_,rfl⟩
 obtain⟨Q,K⟩:∃Q,Qaq cs y.data.toList=Q:=⟨_,rfl⟩
 have B:=Hk (Ai M K)
 clear hJ A hn hc hP
 unfold Jb.cells at J⊢
 rw[hj,ai] at J⊢
 go_enter Tryz.func50,Tryz.ntmps50
 go_wp2
 rw[<-J]
 clear J
 refine wp_region_quiet_below (by kernel_rfl) (by kernel_rfl) ?_
 repeat(any_goals(first|go_big_quiet_step (exact C1 _ _ _)|quiet_step (exact C1 _ _ _)))
 refine wpQuiet_nil ?_
 intro _ ag
 obtain⟨⟨dq,V⟩,ae⟩:=ag
 subst ae
 have z:=Hk (Qaa HB.out (below_regrown W dq V))
 clear e4 e5 e6 C1 HB
 generalize Sort.grow (redrawn W dq) V=W5 at*
 try rw[M]
 try rw[K]
 clear M K
 cases hpx:Qak cs x.data.toList with
 |none=>
  have h:QaG cs x y=7:=by unfold QaG;rw[hpx]
  have D:=Hk h
  have F:P= -1:=by rw[<-B.out.1];exact QaM hpx
  subst F
  clear hpx h B
  go_wp2
  go_ret
  exact⟨by rw[D.out,Qa1 (by decide)];rfl,z.out⟩
 |some p=>
  have F:P=(p:Int):=by rw[<-B.out.1];exact Qaw hpx
  cases hqy:Qak cs y.data.toList with
  |none=>
   have h:QaG cs x y=7:=by unfold QaG;rw[hpx,hqy]
   have D:=Hk h
   have N:Q= -1:=by rw[<-B.out.2];exact QaM hqy
   subst N F
   have ak:¬((p:Int)<0):=by omega
   clear hpx hqy h B
   go_wp2
   go_ret
   exact⟨by rw[D.out,Qa1 (by decide)];rfl,z.out⟩
  |some q=>
   have N:Q=(q:Int):=by rw[<-B.out.2];exact Qaw hqy
   have U:=Qaj hqy
   have O:=((HC.out.2 q U).2)
   rw[Qcd U] at O
   have d5:=cK z.out hb O
   have az:(q:Int)<(n:Int):=by have:=HC.out.1;omega
   have ak:¬((p:Int)<0):=by omega
   have ay:¬((q:Int)<0):=by omega
   have h:QaG cs x y=if QbC cs q≠1 then 13 else if p=q then 9 else 0:=by unfold QaG;rw[hpx,hqy]
   clear hpx hqy O
   subst N F
   generalize QbC cs q=kd at*
   by_cases hk:kd=1
   ·subst hk
    rw[if_neg (by decide)] at h
    by_cases T:p=q
    ·subst T
     rw[if_pos rfl] at h
     have D:=Hk h
     clear h
     go_wp2
     go_ret
     exact⟨by rw[D.out,Qa1 (by decide)];rfl,z.out⟩
    ·rw[if_neg T] at h
     have D:=Hk h
     clear h
     have hpq':¬((p:Int)=(q:Int)):=by omega
     go_wp2
     go_ret
     exact⟨by rw[D.out,Qdp];rfl,z.out⟩
   ·rw[if_pos hk] at h
    have D:=Hk h
    clear h
    go_wp2
    go_ret
    exact⟨by rw[D.out,Qa1 (by decide)];rfl,z.out⟩
theorem grouped_ok (v:Value) (us:List Value) (rs:List (List Vl)) (B m p q:Nat) (w:World) (O:w.ownsRow B 57 1 v rs.length us) (E:Qac w B us rs) (J:∀r∈rs,r.length=m) (K:1<=m) (M:m<=100) (A:rs.length<=100) (F:p<m) (I:q<m) (z:∀r∈rs,Qau (vAt r q).2.1) (hsz:∀r∈rs,∀x∈r,x.2.2.size<=maxLen) (D:B<=w.heap.size) (T:∀g∈QdO p q (QaR [p] rs),Qau g.2):
 Calls Tryz.prog 74 #[v,.int .i64 p,.int .i64 q,.string ⟨#[109,97,120]⟩] w fun e o=>Below B w o/\Qf8 v w o/\∃y j,e=.returned (.tuple #[y,.nilIface])/\o.ownsRow B 57 1 y (Qao (QdO p q (QaR [p] rs))).length j/\Qac o B j (Qao (QdO p q (QaR [p] rs))):=by
 refine(QeJ v us rs B m p q w O E J K M A F I z hsz D).mono ?_
 rintro e o ⟨a,b,⟨-,y,j,N,c,d⟩|⟨h,-⟩⟩
 ·exact⟨a,b,y,j,N,c,d⟩
 ·exact absurd T h
theorem grouped_bad (v:Value) (us:List Value) (rs:List (List Vl)) (B m p q:Nat) (w:World) (K:w.ownsRow B 57 1 v rs.length us) (A:Qac w B us rs) (F:∀r∈rs,r.length=m) (I:1<=m) (J:m<=100) (y:rs.length<=100) (D:p<m) (E:q<m) (j:∀r∈rs,Qau (vAt r q).2.1) (hsz:∀r∈rs,∀x∈r,x.2.2.size<=maxLen) (z:B<=w.heap.size) (M:¬∀g∈QdO p q (QaR [p] rs),Qau g.2):
 Calls Tryz.prog 74 #[v,.int .i64 p,.int .i64 q,.string ⟨#[109,97,120]⟩] w fun e o=>Below B w o/\Qf8 v w o/\e=.returned (.tuple #[.slice none 0 0,Qbp 2]):=by
 refine(QeJ v us rs B m p q w K A F I J y D E j hsz z).mono ?_
 rintro e o ⟨a,b,⟨h,-⟩|⟨-,h⟩⟩
 ·exact absurd h M
 ·exact⟨a,b,h⟩
theorem rowsOf_group_ok (I B tk tcap h no cc p q:Nat) (vc vr:Value) (cs:List Cl) (rs:List (List Vl)) (x y:ByteArray) (j:Jb) (w:World) (E:j.code=8) (ak:j.op=⟨#[109,97,120]⟩) (hj:j.cols=.slice (some ⟨h,no,none⟩) 2 cc) (ar:h<w.heap.size) (s0:w.cell? ⟨h,no,none⟩=some (.string x)) (s1:w.cell? ⟨h,no+1,none⟩=some (.string y)) (hp:Qak cs x.data.toList=some p) (hq:Qak cs y.data.toList=some q) (bu:0<tk) (ae:I<w.heap.size) (t0:w.cell? ⟨I,B,none⟩=some vc) (t1:w.cell? ⟨I,B+1,none⟩=some vr)
 (hc:Qav w vc cs) (hr:QaC w vr rs) (h1:1<=cs.length) (h6:cs.length<=40) (hl:∀r∈rs,r.length=cs.length) (aE:rs.length<=100) (ag:∀r∈rs,Qau (vAt r q).2.1) (hsz:∀r∈rs,∀x∈r,x.2.2.size<=maxLen) (hS:∀g∈QdO p q (QaR [p] rs),Qau g.2):
 Calls Tryz.prog 40 #[.agg j.cells,.slice (some ⟨I,B,none⟩) tk tcap] w fun e w'=>∃v1 us1,e=.returned (.tuple #[v1,.slice none 0 0,.nilIface])/\w'.ownsRow w.heap.size 57 1 v1 (Qao (QdO p q (QaR [p] rs))).length us1/\Qac w' w.heap.size us1 (Qao (QdO p q (QaR [p] rs)))/\Below w.heap.size w w':=by
 have bw:=mkF
 have aD:=Hk (fun W (T:Below w.heap.size w W)=>Qba vr rs cs.length W (hr.below T) hl h1 (by omega) aE)
 have a4:=Qaj hp
 have aT:=Qaj hq
 have a6:=Hk (fun(v:Value) (us:List Value) W (hv:W.ownsRow (w.heap.size+1) 57 1 v rs.length us) (hH:Qac W (w.heap.size+1) us rs) (hs:w.heap.size+1<=W.heap.size)=>grouped_ok v us rs (w.heap.size+1) cs.length p q W hv hH hl h1 (by omega) aE a4 aT ag hsz hs hS)
 obtain⟨b1,F,z,rfl,af,N⟩:=Qcp hc h1
 have az:Hid (∀(v:Value) (U:ByteArray) (k:Int) (W:World),Below w.heap.size w W->(v=.slice (some ⟨b1,F,none⟩) cs.length z/\U=x/\k=(p:Int)\/v=.slice (some ⟨b1,F,none⟩) cs.length z/\U=y/\k=(q:Int))->Calls Tryz.prog 54 #[v,.string U] W fun e w'=>e=.returned (.int .i64 k)/\Below W.heap.size W w'):=by
  refine Hk ?_
  rintro v U k W T (⟨rfl,rfl,rfl⟩|⟨rfl,rfl,rfl⟩)
  ·rw[<-Qaw hp]
   exact QaL b1 F cs.length z cs U W rfl (by omega) (by have:=T.size;omega) (N.below T af)
  ·rw[<-Qaw hq]
   exact QaL b1 F cs.length z cs U W rfl (by omega) (by have:=T.size;omega) (N.below T af)
 have htk':(0:Int)<(tk:Int):=by omega
 clear hl hc N hp hq ag hsz
 obtain⟨ra,aY,rfl,-⟩:=hr
 have ap:Qaz (w.alloc (.cells j.cells 28)) w.heap.size j:=fun k v hk=>by rw[World.cell?_alloc_at _ _ _ _ rfl];exact hk
 have M:=Hk ap
 clear ap
 unfold Jb.cells at M⊢
 rw[E,hj,ak] at M⊢
 have ad:=Hk (Ai E (Ai hj ak))
 clear E hj ak
 all_goals
  go_enter Tryz.func40,Tryz.ntmps40
  go_wp2_with fail
  go_cut [7,8] (fun p v wx=>∃(D:Nat) (us:List Value),p=.pointer (some ⟨D,0,none⟩)/\wx.cell? ⟨D,0,none⟩=some (.slice (some ⟨b1,F,none⟩) cs.length z)/\D<wx.heap.size/\wx.ownsRow (w.heap.size+1) 57 1 v rs.length us/\Qac wx (w.heap.size+1) us rs/\Qaz wx w.heap.size j/\Below w.heap.size w wx/\v.ownBlock≠some D)
  case first=>
   go_region_held3 (fun w'=>w'.cell? ⟨I,B,none⟩=some (.slice (some ⟨b1,F,none⟩) cs.length z)/\w'.cell? ⟨I,B+1,none⟩=some (.slice ra rs.length aY))
    (first|(go_keep;done)|exact⟨(World.cell?_setCell_other _ _ _ _ (by intro e;simp at e;try omega)).trans k0,(World.cell?_setCell_other _ _ _ _ (by intro e;simp at e;try omega)).trans k1⟩)
    (first|(go_at_call 63;refine(aD.out _ (by first|exact(Qab _ _).drew|exact(Qad (Qab _ _) _).drew)).mono ?_;rintro e Z ⟨v1,us,rfl,O,aA,o⟩;have A:=Qaa (show Below w.heap.size w _ from(by first|exact(Qab _ _).drew|exact(Qad (Qab _ _) _).drew)) o;have k0:=cK A ae t0;have k1:=cK A ae t1;have bt:I<Z.heap.size:=Nat.lt_of_lt_of_le ae A.size;(try(have kb:=(o.cell (p:=⟨w.heap.size+1,0,none⟩) (by simp)).trans (show _=some (Value.slice none 0 0) by simp);have kf:=(o.frozen (p:=⟨w.heap.size+1,0,none⟩) (by simp)).trans (show _=false by simp);have kz:w.heap.size+1<Z.heap.size:=by(have:=o.size;simp at this;omega)))))
   all_goals go_wp2_with fail
   all_goals go_meet
   ·have ac:Qaz Z w.heap.size j:=fun k v hk=>(o.cell (p:=⟨w.heap.size,k,none⟩) (by simp)).trans (by simpa using M.out k v hk)
    exact⟨Z.heap.size,us,rfl,by simp,by simp,(Qam (by simp) O).alloc _,(aA.mono (by simp)).below (Qab _ _),ac.below (Qab _ _) (by have:=o.size;simp at this;omega),Qad A _,Qc6 O⟩
   ·have ac:Qaz Z w.heap.size j:=fun k v hk=>(o.cell (p:=⟨w.heap.size,k,none⟩) (by simp;omega)).trans (by simpa using M.out k v hk)
    exact⟨w.heap.size+1,us,rfl,World.cell?_setCell_same _ _ _ kb,by simpa using kz,Qam (by simp) (ownsRow_setCell_below O (by simp) _),(Qac.set aA (by simp)).mono (by simp),fun k v hk=>(World.cell?_setCell_other _ _ _ _ (by intro e;simp at e)).trans (ac k v hk),A.setCell (by show w.heap.size<=w.heap.size+1;omega) _,QcA O (by simp)⟩
  case rest=>
   obtain⟨D,us,rfl,aZ,am,hv,hH,hJ,J,ai⟩:=hcut
   have bv:=J.size
   have j1:wc.cell? ⟨w.heap.size,1,none⟩=some (.int .i64 8):=by have:=hJ 1 (.int .i64 j.code) rfl;rw[ad.out.1] at this;exact this
   have j4:wc.cell? ⟨w.heap.size,4,none⟩=some (.slice (some ⟨h,no,none⟩) 2 cc):=by have:=hJ 4 j.cols rfl;rw[ad.out.2.1] at this;exact this
   have j5:wc.cell? ⟨w.heap.size,5,none⟩=some (.string ⟨#[109,97,120]⟩):=by have:=hJ 5 (.string j.op) rfl;rw[ad.out.2.2] at this;exact this
   have aC:=hJ.lt
   have z4:=cK J ar s0
   have z5:=cK J ar s1
   have KX:Hid (∀V,Below wc.heap.size wc V->V.cell? ⟨D,0,none⟩=some (.slice (some ⟨b1,F,none⟩) cs.length z)/\V.cell? ⟨w.heap.size,4,none⟩=some (.slice (some ⟨h,no,none⟩) 2 cc)/\V.cell? ⟨w.heap.size,5,none⟩=some (.string ⟨#[109,97,120]⟩)/\V.cell? ⟨h,no,none⟩=some (.string x)/\V.cell? ⟨h,no+1,none⟩=some (.string y)):=Hk (fun V hV=>⟨cK hV am aZ,cK hV aC j4,cK hV aC j5,cK hV (by omega) z4,cK hV (by omega) z5⟩)
   have HB:=Hk (Ai J (Ai hv hH))
   obtain⟨xa,xc,rfl⟩:=Qae hv
   have KY:Hid (∀V V',Below wc.heap.size wc V->Below (w.heap.size+1) V V'->Qf8 (.slice xa rs.length xc) V V'->V'.cell? ⟨D,0,none⟩=some (.slice (some ⟨b1,F,none⟩) cs.length z)/\V'.cell? ⟨w.heap.size,4,none⟩=some (.slice (some ⟨h,no,none⟩) 2 cc)/\V'.cell? ⟨w.heap.size,5,none⟩=some (.string ⟨#[109,97,120]⟩)/\V'.cell? ⟨h,no,none⟩=some (.string x)/\V'.cell? ⟨h,no+1,none⟩=some (.string y)):=Hk (fun V V' hV hV' hk=>by
    obtain⟨y0,y1,y2,y3,y4⟩:=KX.out V hV
    have hs:=hV.size
    exact⟨(hk ⟨D,0,none⟩ (Nat.lt_of_lt_of_le am hs) ai).trans y0,cK hV' (by omega) y1,cK hV' (by omega) y2,cK hV' (by omega) y3,cK hV' (by omega) y4⟩)
   clear J hv hH hJ aD M t0 t1 s0 s1 ai
   have al:=Hk (Ai (show Below wc.heap.size wc wc.drew from(Below.refl _ _).drew) HB.out.1.drew)
   go_wp2_with fail
   go_region_held3 (fun V=>V.cell? ⟨D,0,none⟩=some (.slice (some ⟨b1,F,none⟩) cs.length z)/\V.cell? ⟨w.heap.size,4,none⟩=some (.slice (some ⟨h,no,none⟩) 2 cc)/\V.cell? ⟨w.heap.size,5,none⟩=some (.string ⟨#[109,97,120]⟩)/\V.cell? ⟨h,no,none⟩=some (.string x)/\V.cell? ⟨h,no+1,none⟩=some (.string y))
    (first|(go_keep;done)|exact KY.out _ _ K.out av.out a5.out|exact KX.out _ K.out|exact KX.out _ ax.out)
    (first|(go_at_call 74;refine(a6.out _ us _ (Qaf HB.out.2.1 K.out) (HB.out.2.2.below K.out) (by have:=K.out.size;omega)).mono ?_;rintro e w3 ⟨ay,aG,v3,a7,rfl,aB,aH⟩;have av:=Hk ay;have a5:=Hk aG;have au:=Hk (Ai aB aH);clear ay aG aB aH)|(go_at_call 54;refine(az.out _ _ _ _ aq.out (by first|exact Or.inl ⟨rfl,rfl,rfl⟩|exact Or.inr ⟨rfl,rfl,rfl⟩)).mono ?_;rintro e w2 ⟨rfl,aw⟩;have K:=Hk (Qaa ax.out aw);have aV:=Hk (Qaa aq.out aw))|(go_at_call 54;refine(az.out _ _ _ _ al.out.2 (by first|exact Or.inl ⟨rfl,rfl,rfl⟩|exact Or.inr ⟨rfl,rfl,rfl⟩)).mono ?_;rintro e Z ⟨rfl,o⟩;have ax:=Hk (Qaa al.out.1 o);have aq:=Hk (Qaa al.out.2 o)))
   go_wp2
   go_ret3
   exact⟨_,a7,rfl,Qam (by omega) au.out.1,au.out.2.mono (by omega),aV.out.trans (av.out.mono (Nat.le_succ _))⟩
theorem rowsOf_group_bad (I B tk tcap h no cc p q:Nat) (vc vr:Value) (cs:List Cl) (rs:List (List Vl)) (x y:ByteArray) (j:Jb) (w:World) (E:j.code=8) (ak:j.op=⟨#[109,97,120]⟩) (hj:j.cols=.slice (some ⟨h,no,none⟩) 2 cc) (ar:h<w.heap.size) (s0:w.cell? ⟨h,no,none⟩=some (.string x)) (s1:w.cell? ⟨h,no+1,none⟩=some (.string y)) (hp:Qak cs x.data.toList=some p) (hq:Qak cs y.data.toList=some q) (bp:0<tk) (ae:I<w.heap.size) (t0:w.cell? ⟨I,B,none⟩=some vc) (t1:w.cell? ⟨I,B+1,none⟩=some vr)
 (hc:Qav w vc cs) (hr:QaC w vr rs) (h1:1<=cs.length) (h6:cs.length<=40) (hl:∀r∈rs,r.length=cs.length) (aC:rs.length<=100) (ag:∀r∈rs,Qau (vAt r q).2.1) (hsz:∀r∈rs,∀x∈r,x.2.2.size<=maxLen) (hS:¬∀g∈QdO p q (QaR [p] rs),Qau g.2):
 Calls Tryz.prog 40 #[.agg j.cells,.slice (some ⟨I,B,none⟩) tk tcap] w fun e w'=>e=.returned (.tuple #[.slice none 0 0,.slice none 0 0,Qbp 2])/\Below w.heap.size w w':=by
 have br:=mkF
 have aB:=Hk (fun W (T:Below w.heap.size w W)=>Qba vr rs cs.length W (hr.below T) hl h1 (by omega) aC)
 have aW:=Qaj hp
 have aP:=Qaj hq
 have aY:=Hk (fun(v:Value) (us:List Value) W (hv:W.ownsRow (w.heap.size+1) 57 1 v rs.length us) (hH:Qac W (w.heap.size+1) us rs) (hs:w.heap.size+1<=W.heap.size)=>grouped_bad v us rs (w.heap.size+1) cs.length p q W hv hH hl h1 (by omega) aC aW aP ag hsz hs hS)
 obtain⟨b1,F,z,rfl,af,N⟩:=Qcp hc h1
 have ay:Hid (∀(v:Value) (U:ByteArray) (k:Int) (W:World),Below w.heap.size w W->(v=.slice (some ⟨b1,F,none⟩) cs.length z/\U=x/\k=(p:Int)\/v=.slice (some ⟨b1,F,none⟩) cs.length z/\U=y/\k=(q:Int))->Calls Tryz.prog 54 #[v,.string U] W fun e w'=>e=.returned (.int .i64 k)/\Below W.heap.size W w'):=by
  refine Hk ?_
  rintro v U k W T (⟨rfl,rfl,rfl⟩|⟨rfl,rfl,rfl⟩)
  ·rw[<-Qaw hp]
   exact QaL b1 F cs.length z cs U W rfl (by omega) (by have:=T.size;omega) (N.below T af)
  ·rw[<-Qaw hq]
   exact QaL b1 F cs.length z cs U W rfl (by omega) (by have:=T.size;omega) (N.below T af)
 have htk':(0:Int)<(tk:Int):=by omega
 clear hl hc N hp hq ag hsz
 obtain⟨ra,aU,rfl,-⟩:=hr
 have ap:Qaz (w.alloc (.cells j.cells 28)) w.heap.size j:=fun k v hk=>by rw[World.cell?_alloc_at _ _ _ _ rfl];exact hk
 have M:=Hk ap
 clear ap
 unfold Jb.cells at M⊢
 rw[E,hj,ak] at M⊢
 have ad:=Hk (Ai E (Ai hj ak))
 clear E hj ak
 all_goals
  go_enter Tryz.func40,Tryz.ntmps40
  go_wp2_with fail
  go_cut [7,8] (fun p v wx=>∃(D:Nat) (us:List Value),p=.pointer (some ⟨D,0,none⟩)/\wx.cell? ⟨D,0,none⟩=some (.slice (some ⟨b1,F,none⟩) cs.length z)/\D<wx.heap.size/\wx.ownsRow (w.heap.size+1) 57 1 v rs.length us/\Qac wx (w.heap.size+1) us rs/\Qaz wx w.heap.size j/\Below w.heap.size w wx/\v.ownBlock≠some D)
  case first=>
   go_region_held3 (fun w'=>w'.cell? ⟨I,B,none⟩=some (.slice (some ⟨b1,F,none⟩) cs.length z)/\w'.cell? ⟨I,B+1,none⟩=some (.slice ra rs.length aU))
    (first|(go_keep;done)|exact⟨(World.cell?_setCell_other _ _ _ _ (by intro e;simp at e;try omega)).trans k0,(World.cell?_setCell_other _ _ _ _ (by intro e;simp at e;try omega)).trans k1⟩)
    (first|(go_at_call 63;refine(aB.out _ (by first|exact(Qab _ _).drew|exact(Qad (Qab _ _) _).drew)).mono ?_;rintro e Z ⟨v1,us,rfl,O,az,o⟩;have A:=Qaa (show Below w.heap.size w _ from(by first|exact(Qab _ _).drew|exact(Qad (Qab _ _) _).drew)) o;have k0:=cK A ae t0;have k1:=cK A ae t1;have bo:I<Z.heap.size:=Nat.lt_of_lt_of_le ae A.size;(try(have kb:=(o.cell (p:=⟨w.heap.size+1,0,none⟩) (by simp)).trans (show _=some (Value.slice none 0 0) by simp);have kf:=(o.frozen (p:=⟨w.heap.size+1,0,none⟩) (by simp)).trans (show _=false by simp);have kz:w.heap.size+1<Z.heap.size:=by(have:=o.size;simp at this;omega)))))
   all_goals go_wp2_with fail
   all_goals go_meet
   ·have ac:Qaz Z w.heap.size j:=fun k v hk=>(o.cell (p:=⟨w.heap.size,k,none⟩) (by simp)).trans (by simpa using M.out k v hk)
    exact⟨Z.heap.size,us,rfl,by simp,by simp,(Qam (by simp) O).alloc _,(az.mono (by simp)).below (Qab _ _),ac.below (Qab _ _) (by have:=o.size;simp at this;omega),Qad A _,Qc6 O⟩
   ·have ac:Qaz Z w.heap.size j:=fun k v hk=>(o.cell (p:=⟨w.heap.size,k,none⟩) (by simp;omega)).trans (by simpa using M.out k v hk)
    exact⟨w.heap.size+1,us,rfl,World.cell?_setCell_same _ _ _ kb,by simpa using kz,Qam (by simp) (ownsRow_setCell_below O (by simp) _),(Qac.set az (by simp)).mono (by simp),fun k v hk=>(World.cell?_setCell_other _ _ _ _ (by intro e;simp at e)).trans (ac k v hk),A.setCell (by show w.heap.size<=w.heap.size+1;omega) _,QcA O (by simp)⟩
  case rest=>
   obtain⟨D,us,rfl,aV,am,hv,hH,hJ,J,ai⟩:=hcut
   have bq:=J.size
   have j1:wc.cell? ⟨w.heap.size,1,none⟩=some (.int .i64 8):=by have:=hJ 1 (.int .i64 j.code) rfl;rw[ad.out.1] at this;exact this
   have j4:wc.cell? ⟨w.heap.size,4,none⟩=some (.slice (some ⟨h,no,none⟩) 2 cc):=by have:=hJ 4 j.cols rfl;rw[ad.out.2.1] at this;exact this
   have j5:wc.cell? ⟨w.heap.size,5,none⟩=some (.string ⟨#[109,97,120]⟩):=by have:=hJ 5 (.string j.op) rfl;rw[ad.out.2.2] at this;exact this
   have aA:=hJ.lt
   have z4:=cK J ar s0
   have z5:=cK J ar s1
   have KX:Hid (∀V,Below wc.heap.size wc V->V.cell? ⟨D,0,none⟩=some (.slice (some ⟨b1,F,none⟩) cs.length z)/\V.cell? ⟨w.heap.size,4,none⟩=some (.slice (some ⟨h,no,none⟩) 2 cc)/\V.cell? ⟨w.heap.size,5,none⟩=some (.string ⟨#[109,97,120]⟩)/\V.cell? ⟨h,no,none⟩=some (.string x)/\V.cell? ⟨h,no+1,none⟩=some (.string y)):=Hk (fun V hV=>⟨cK hV am aV,cK hV aA j4,cK hV aA j5,cK hV (by omega) z4,cK hV (by omega) z5⟩)
   have HB:=Hk (Ai J (Ai hv hH))
   obtain⟨xa,xc,rfl⟩:=Qae hv
   have KY:Hid (∀V V',Below wc.heap.size wc V->Below (w.heap.size+1) V V'->Qf8 (.slice xa rs.length xc) V V'->V'.cell? ⟨D,0,none⟩=some (.slice (some ⟨b1,F,none⟩) cs.length z)/\V'.cell? ⟨w.heap.size,4,none⟩=some (.slice (some ⟨h,no,none⟩) 2 cc)/\V'.cell? ⟨w.heap.size,5,none⟩=some (.string ⟨#[109,97,120]⟩)/\V'.cell? ⟨h,no,none⟩=some (.string x)/\V'.cell? ⟨h,no+1,none⟩=some (.string y)):=Hk (fun V V' hV hV' hk=>by
    obtain⟨y0,y1,y2,y3,y4⟩:=KX.out V hV
    have hs:=hV.size
    exact⟨(hk ⟨D,0,none⟩ (Nat.lt_of_lt_of_le am hs) ai).trans y0,cK hV' (by omega) y1,cK hV' (by omega) y2,cK hV' (by omega) y3,cK hV' (by omega) y4⟩)
   clear J hv hH hJ aB M t0 t1 s0 s1 ai
   have al:=Hk (Ai (show Below wc.heap.size wc wc.drew from(Below.refl _ _).drew) HB.out.1.drew)
   go_wp2_with fail
   go_region_held3 (fun V=>V.cell? ⟨D,0,none⟩=some (.slice (some ⟨b1,F,none⟩) cs.length z)/\V.cell? ⟨w.heap.size,4,none⟩=some (.slice (some ⟨h,no,none⟩) 2 cc)/\V.cell? ⟨w.heap.size,5,none⟩=some (.string ⟨#[109,97,120]⟩)/\V.cell? ⟨h,no,none⟩=some (.string x)/\V.cell? ⟨h,no+1,none⟩=some (.string y))
    (first|(go_keep;done)|exact KY.out _ _ K.out au.out aX.out|exact KX.out _ K.out|exact KX.out _ aw.out)
    (first|(go_at_call 74;refine(aY.out _ us _ (Qaf HB.out.2.1 K.out) (HB.out.2.2.below K.out) (by have:=K.out.size;omega)).mono ?_;rintro e w3 ⟨ax,aD,rfl⟩;have au:=Hk ax;have aX:=Hk aD;clear ax aD)|(go_at_call 54;refine(ay.out _ _ _ _ aq.out (by first|exact Or.inl ⟨rfl,rfl,rfl⟩|exact Or.inr ⟨rfl,rfl,rfl⟩)).mono ?_;rintro e w2 ⟨rfl,av⟩;have K:=Hk (Qaa aw.out av);have aR:=Hk (Qaa aq.out av))|(go_at_call 54;refine(ay.out _ _ _ _ al.out.2 (by first|exact Or.inl ⟨rfl,rfl,rfl⟩|exact Or.inr ⟨rfl,rfl,rfl⟩)).mono ?_;rintro e Z ⟨rfl,o⟩;have aw:=Hk (Qaa al.out.1 o);have aq:=Hk (Qaa al.out.2 o)))
   go_wp2
   go_ret3
   exact⟨rfl,aR.out.trans (au.out.mono (Nat.le_succ _))⟩
def grpOf (t:Tb) (x y:ByteArray):List Gr:=QdO (pOf t.1 x) (pOf t.1 y) (QaR [pOf t.1 x] t.2)
def grpT (t:Tb) (x y:ByteArray):Tb:=(QaT [pOf t.1 x,pOf t.1 y] t.1,Qao (grpOf t x y))
open Classical in
noncomputable def grpNo (t:Tb) (x y:ByteArray):Int:=if Qan t.1 t.2=false then 1 else if QaG t.1 x y≠0 then QaG t.1 x y else if∀g∈grpOf t x y,Qau g.2 then 0 else 2
theorem grpNo_0 {t:Tb} {x y:ByteArray} (h:grpNo t x y=0):Qan t.1 t.2=true/\QaG t.1 x y=0/\∀g∈grpOf t x y,Qau g.2:=by
 unfold grpNo at h
 split at h
 ·cases h
 ·rename_i o
  split at h
  ·rename_i j;exact absurd h j
  ·rename_i j
   split at h
   ·rename_i q
    exact⟨by simpa using o,by simpa using j,q⟩
   ·cases h
theorem grp_wrong {t:Tb} {x y:ByteArray} {j:Jb} {W:World} {B g A:Nat} {us:List Value} (D:j.code=8) (K:j.op=⟨#[109,97,120]⟩) (hr:Qan t.1 t.2=true) (T:QaX W j.cols [x,y]) (Z:W.ownsRow B 33 1 (.slice (some ⟨g,0,none⟩) 1 A) 1 us) (O:QaA W us [t.1]):∀h,Below W.heap.size W h->Calls Tryz.prog 26 #[.agg j.cells,.slice (some ⟨g,0,none⟩) 1 A] h fun e w'=>e=.returned (Qbp (QaG t.1 x y))/\Below h.heap.size h w':=by
 intro h q
 obtain⟨N,ac,ad,ae⟩:=Qar hr
 obtain⟨b,o,c,M,E,F,J⟩:=Qcy Z O N
 refine QcU g 0 1 A b o t.1.length c j _ h D (by decide) (Nat.lt_of_lt_of_le E q.size) (cK q E M) (fun W2 hW2=>?_)
 have z:=Qaa q hW2
 obtain⟨V,no,cc,e,I,U,s1⟩:=(QbW T).below z
 exact group_any b o t.1.length c V no cc t.1 x y j W2 e K I U s1 rfl (by omega) (Nat.lt_of_lt_of_le F z.size) (J.below z F)
theorem grp_cols {t:Tb} {x y:ByteArray} {j:Jb} {K:Option Addr} {N:Nat} {w:World} (h:j.code=8) (J:j.op=⟨#[109,97,120]⟩) (D:j.outs=.slice K 1 N) (O:QaX w j.cols [x,y]) (Z:Qan t.1 t.2=true) (he:QaG t.1 x y=0):∀W B g q us,Below w.heap.size w W->W.ownsRow B 33 1 (.slice (some ⟨g,0,none⟩) [t].length q) [t].length us->QaA W us ([t].map (·.1))->Calls Tryz.prog 10 #[.agg j.cells,.slice (some ⟨g,0,none⟩) [t].length q] W fun e w'=>∃v us,e=.returned (.tuple #[v,.nilIface])/\w'.ownsRow W.heap.size 33 1 v 1 us/\Qbi w' W.heap.size us (grpT t x y).1/\Below W.heap.size W w':=by
 intro W B g q us E T F
 have U:QaP j.code=(((1:Nat):Int),((1:Nat):Int)):=by rw[h];rfl
 obtain⟨V,aa,ac,ab⟩:=Qar Z
 obtain⟨b,o,c,M,z,A,I⟩:=Qcy T F V
 refine Qde _ K q N j 1 1 (grpT t x y).1 W D U (by decide) (by decide) (fun W' hW'=>?_) (fun W' hW'=>QcB g 0 1 q b o t.1.length c t.1 [x,y] j W' h (by decide) (Nat.lt_of_lt_of_le z hW'.size) (cK hW' z M) ((O.below E).below hW') (Qee he) rfl (by omega) (Nat.lt_of_lt_of_le A hW'.size) (I.below hW' A))
 have:=grp_wrong h J Z (O.below E) T F W' hW'
 rw[he] at this
 exact this
theorem do_grp_bad (z h tcap:Nat) (t:Tb) (x y:ByteArray) (j:Jb) (O:Option Addr) (T:Nat) (w:World) (o:j.code=8) (E:j.op=⟨#[109,97,120]⟩) (F:j.outs=.slice O 1 T) (K:QaX w j.cols [x,y]) (I:Qa0 w z h [t]) (q:z<w.heap.size) (ab:grpNo t x y≠0):
 Calls Tryz.prog 14 #[.agg j.cells,.slice (some ⟨z,h,none⟩) 1 tcap] w fun e w'=>e=.returned (.tuple #[.slice none 0 0,Qbp (grpNo t x y)])/\Below w.heap.size w w':=by
 have V:QaP j.code=(((1:Nat):Int),((1:Nat):Int)):=by rw[o];rfl
 cases hr:Qan t.1 t.2
 ·have:grpNo t x y=1:=by unfold grpNo;rw[if_pos hr]
  rw[this]
  exact QhT z h tcap [t] j w I q (by simp) ⟨t,by simp,hr⟩
 ·have D:∀u∈[t],Qan u.1 u.2=true:=by intro u N;simp at N;rw[N];exact hr
  by_cases he:QaG t.1 x y=0
  ·by_cases hS:∀g∈grpOf t x y,Qau g.2
   ·exfalso
    apply ab
    unfold grpNo
    rw[if_neg (by simp[hr]),if_neg (by simpa using he),if_pos hS]
   ·have:grpNo t x y=2:=by unfold grpNo;rw[if_neg (by simp[hr]),if_neg (by simpa using he),if_neg hS]
    rw[this]
    obtain⟨Z,ao,ap,aa⟩:=Qar hr
    obtain⟨vc,vr,c0,c1,hc,J⟩:=I 0 (by simp)
    obtain⟨hp,hq,-,-⟩:=QcD he
    refine Qhk z h tcap [t] j w I q (by simp) (by simp) D (grpT t x y).1 1 2 (by decide) (grp_cols o E F K hr he) (fun W A=>?_)
    obtain⟨nb,no,cc,e,M,s0,s1⟩:=(QbW K).below A
    exact rowsOf_group_bad z h 1 tcap nb no cc _ _ vc vr t.1 t.2 x y j W o E e M s0 s1 hp hq (by decide) (Nat.lt_of_lt_of_le q A.size) ((A.cell (p:=⟨z,h,none⟩) q).trans (by simpa using c0)) ((A.cell (p:=⟨z,h+1,none⟩) q).trans (by simpa using c1)) (hc.below A) (J.below A) Z (by omega) aa (by omega) (Qef hr he) (Qc7 J) hS
  ·have hn:grpNo t x y=QaG t.1 x y:=by unfold grpNo;rw[if_neg (by simp[hr]),if_pos he]
   rw[hn]
   refine QhU z h tcap [t] j w I q (by simp) (by simp) D _ he ?_
   intro W B g U us A ho hh
   exact Qeb _ O U T j 1 1 _ W F V (by decide) he (grp_wrong o E hr (K.below A) ho hh)
theorem grp_len (t:Tb) (x y:ByteArray):(Qao (grpOf t x y)).length<=t.2.length:=by
 have h:=QeI (pOf t.1 x) (pOf t.1 y) (QaR [pOf t.1 x] t.2)
 rw[Qb1] at h
 unfold Qao
 rw[List.length_map]
 exact h
theorem do_grp_ok (o h tcap:Nat) (t:Tb) (x y:ByteArray) (j:Jb) (oa:Option Addr) (oc:Nat) (w:World) (q:j.code=8) (D:j.op=⟨#[109,97,120]⟩) (F:j.outs=.slice oa 1 oc) (M:QaX w j.cols [x,y]) (V:Qa0 w o h [t]) (z:o<w.heap.size) (U:grpNo t x y=0):
 Calls Tryz.prog 14 #[.agg j.cells,.slice (some ⟨o,h,none⟩) 1 tcap] w fun e A=>∃g c,e=.returned (.tuple #[.slice (some ⟨g,0,none⟩) 1 c,.nilIface])/\w.heap.size<=g/\g<A.heap.size/\QbR A w.heap.size g [grpT t x y]/\Below w.heap.size w A:=by
 obtain⟨B,he,hS⟩:=grpNo_0 U
 obtain⟨T,ap,aq,O⟩:=Qar B
 obtain⟨vc,vr,c0,c1,N,E⟩:=V 0 (by simp)
 obtain⟨hp,hq,-,-⟩:=QcD he
 refine Qex o h tcap [t] j w V z (by simp) (by simp) (by intro u J;simp at J;rw[J];exact B) (grpT t x y).1 (grpT t x y).2 [] (by have:=grp_len t x y;show(Qao (grpOf t x y)).length<=60;omega) (Qfi (QbI N)) (grp_cols q D F M B he) (fun W hW=>?_)
 obtain⟨nb,no,cc,e,I,s0,s1⟩:=(QbW M).below hW
 refine(rowsOf_group_ok o h 1 tcap nb no cc _ _ vc vr t.1 t.2 x y j W q D e I s0 s1 hp hq (by decide) (Nat.lt_of_lt_of_le z hW.size) ((hW.cell (p:=⟨o,h,none⟩) z).trans (by simpa using c0)) ((hW.cell (p:=⟨o,h+1,none⟩) z).trans (by simpa using c1)) (N.below hW) (E.below hW) T (by omega) O (by omega) (Qef B he) (Qc7 E) hS).mono ?_
 rintro e A ⟨Z,K,h1,h2,h3,hb⟩
 exact⟨Z,.slice none 0 0,K,[],h1,h2,h3,World.ownsRow_nil _ _ _ _,Qac.nil _ _,hb⟩
end Go.Proofs.YtofidnijfnhpaaaGreatDoor.Mx
namespace Go.Proofs.YtofidnijfnhpaaaGreatDoor
open Go.RowKit
theorem QkD (n:Int) (w:World):Calls Tryz.prog 42 #[.int .u8 n] w fun e w'=>e=.returned (.bool (Qfx n))/\w'=w:=by
 go_enter Tryz.func42,Tryz.ntmps42
 go_wp2
 all_goals go_ret
 all_goals refine⟨Qal ?_,rfl⟩
 all_goals first|(simp[Qfx, *];done)|(simp[Qfx];omega)
def QmB (n:Int):Bool:=decide (48<=n)&&decide (n<=57)
theorem QkE (n:Int) (w:World):Calls Tryz.prog 43 #[.int .u8 n] w fun e w'=>e=.returned (.bool (QmB n))/\w'=w:=by
 go_enter Tryz.func43,Tryz.ntmps43
 go_wp2
 all_goals go_ret
 all_goals refine⟨Qal ?_,rfl⟩
 all_goals first|(simp[QmB, *];done)|(simp[QmB];omega)
theorem Qcq (n j q:Int) (w:World):Calls Tryz.prog 17 #[.int .i64 n,.int .i64 j,.int .i64 q] w fun e w'=>e=.returned (.bool (decide (j<=n)&&decide (n<=q)))/\w'=w:=by
 by_cases h:j<=n
 ·have o:decide (j<=n)=true:=decide_eq_true h
  rw[o,Bool.true_and]
  go_enter Tryz.func17,Tryz.ntmps17
  go_wp2
  go_ret
  exact⟨rfl,rfl⟩
 ·have o:decide (j<=n)=false:=decide_eq_false h
  rw[o,Bool.false_and]
  have h':n<j:=by omega
  go_enter Tryz.func17,Tryz.ntmps17
  go_wp2
  go_ret
  exact⟨rfl,rfl⟩
def nmP:List UInt8->Bool
 |[]=>true
 |c::r=>Qfx (c.toNat:Int)&&Qdj QaS r
theorem QkF (l:List UInt8) (c:UInt8):nmP (l++[c])=(nmP l&&if l=[] then Qfx (c.toNat:Int) else QaS (c.toNat:Int)):=by
 cases l with
 |nil=>simp[nmP,Qdj]
 |cons a r=>simp[nmP,Qdj,Bool.and_assoc]
theorem Qly {a b:List UInt8} (h:nmP a=false):nmP (a++b)=false:=by
 cases a with
 |nil=>cases h
 |cons x r=>
  simp only[nmP,List.cons_append] at h⊢
  rw[show Qdj QaS (r++b)=(Qdj QaS r&&Qdj QaS b) by simp[Qdj]]
  rw[<-Bool.and_assoc,h,Bool.false_and]
theorem Qjv (s:ByteArray) (k:Nat) (h:nmP (s.data.toList.take k)=false):nmP s.data.toList=false:=by
 have:=Qly (b:=s.data.toList.drop k) h
 rwa[List.take_append_drop] at this
theorem QkG (l:List UInt8):Qd9 l=((decide (1<=(l.length:Int))&&decide ((l.length:Int)<=10))&&nmP l):=by
 cases l with
 |nil=>rfl
 |cons c r=>
  have j:decide (1<=((c::r).length:Int))=true:=decide_eq_true (by simp;omega)
  have o:decide (((c::r).length:Int)<=10)=decide ((c::r).length<=10):=by
   by_cases h:(c::r).length<=10
   ·rw[decide_eq_true h,decide_eq_true (by omega)]
   ·rw[decide_eq_false h,decide_eq_false (by omega)]
  rw[j,o,Bool.true_and]
  show(decide ((c::r).length<=10)&&(Qfx (c.toNat:Int)&&Qdj QaS (c::r)))=(decide ((c::r).length<=10)&&(Qfx (c.toNat:Int)&&Qdj QaS r))
  rw[show Qdj QaS (c::r)=(QaS (c.toNat:Int)&&Qdj QaS r) by simp[Qdj]]
  cases e:Qfx (c.toNat:Int)<;>simp[QaS,e]
theorem Qlz (s:ByteArray) (k:Nat) (h:k<s.size):nmP (s.data.toList.take (k+1))=(nmP (s.data.toList.take k)&&if k=0 then Qfx (s[k].toNat:Int) else QaS (s[k].toNat:Int)):=by
 rw[Qdl s k h,QkF]
 have:(s.data.toList.take k=[])↔k=0:=by
  rw[List.take_eq_nil_iff]
  constructor
  ·rintro(j|j)
   ·exact j
   ·have:s.data.toList.length=0:=by rw[j];rfl
    have:s.size=0:=by simpa using this
    omega
  ·exact Or.inl
 simp only[this]
theorem Qjw (s:ByteArray) (w:World) (K:s.size<=maxLen):
 Calls Tryz.prog 16 #[.string s] w fun e j=>e=.returned (.bool (Qd9 s.data.toList))/\j=w:=by
 unfold maxLen at K
 have B:=Hk (QkG s.data.toList)
 have F:s.data.toList.length=s.size:=by simp
 have J:=Hk F
 clear F
 go_enter Tryz.func16,Tryz.ntmps16
 go_wp2
 go_loop [6] (fun i=>∃k:Nat,k<=s.size/\i=.int .i64 k/\nmP (s.data.toList.take k)=true) (fun i=>s.size-(intOf i).toNat)
 case atStart=>exact⟨0,Nat.zero_le _,rfl,rfl⟩
 case round=>
  obtain⟨k,N,rfl,A⟩:=hrel
  have E:=Hk A
  clear A
  by_cases hlt:k<s.size
  ·have q:=Hk (Qlz s k hlt)
   have o:=Hk (fun W=>QkD (s[k].toNat:Int) W)
   have y:=Hk (fun W=>QkE (s[k].toNat:Int) W)
   obtain⟨c,M⟩:∃c:UInt8,s[k]=c:=⟨_,rfl⟩
   rw[M] at o y q
   cases g1:Qfx (c.toNat:Int)
   ·rw[g1] at o
    by_cases h:k=0
    ·subst h
     have D:=Hk (Qjv s 1 (by rw[q.out,g1];simp))
     clear g1
     go_wp2_with (go_at_call 42;refine(o.out _).mono ?_;rintro e j ⟨rfl,rfl⟩)
     go_ret
     exact⟨Qal (by rw[B.out,D.out,Bool.and_false]),rfl⟩
    ·have hk0':((k:Int)==0)=false:=by simp;omega
     cases g2:QmB (c.toNat:Int)
     ·rw[g2] at y
      have D:=Hk (Qjv s (k+1) (by rw[q.out,if_neg h,QaS,g1,show(decide (48<=(c.toNat:Int))&&decide ((c.toNat:Int)<=57))=false from g2];simp))
      clear g1 g2 h
      go_wp2_with (first|(go_at_call 42;refine(o.out _).mono ?_;rintro e j ⟨rfl,rfl⟩)|(go_at_call 43;refine(y.out _).mono ?_;rintro e j ⟨rfl,rfl⟩))
      go_ret
      exact⟨Qal (by rw[B.out,D.out,Bool.and_false]),rfl⟩
     ·rw[g2] at y
      have z:=Hk (show nmP (s.data.toList.take (k+1))=true by rw[q.out,E.out,if_neg h,QaS,show(decide (48<=(c.toNat:Int))&&decide ((c.toNat:Int)<=57))=true from g2];simp)
      clear g1 g2 h
      go_wp2_with (first|(go_at_call 42;refine(o.out _).mono ?_;rintro e j ⟨rfl,rfl⟩)|(go_at_call 43;refine(y.out _).mono ?_;rintro e j ⟨rfl,rfl⟩))
      go_round
      case rel=>exact⟨k+1,by omega,by go_num,z.out⟩
      case measure=>simp[intOf];omega
   ·rw[g1] at o
    have z:=Hk (show nmP (s.data.toList.take (k+1))=true by
     rw[q.out,E.out,QaS,g1];simp)
    clear g1
    go_wp2_with (go_at_call 42;refine(o.out _).mono ?_;rintro e j ⟨rfl,rfl⟩)
    go_round
    case rel=>exact⟨k+1,by omega,by go_num,z.out⟩
    case measure=>simp[intOf];omega
  ·have z:=Hk (show nmP s.data.toList=true by have:=E.out;rw[List.take_of_length_le (by simp;omega)] at this;exact this)
   have I:=Hk (fun W=>Qcq (s.size:Int) 1 10 W)
   go_wp2_with (go_at_call 17;refine(I.out _).mono ?_;rintro e j ⟨rfl,rfl⟩)
   go_ret
   exact⟨Qal (by rw[B.out,z.out,Bool.and_true,J.out]),rfl⟩
theorem Qh4 (a:UInt8) (x y:List UInt8):Op.bytesLess (a::x) (a::y)=Op.bytesLess x y:=by
 show(decide (a<a)||(a==a&&Op.bytesLess x y))=_
 simp
theorem Qma {a b:UInt8} (x y:List UInt8) (h:a≠b):Op.bytesLess (a::x) (b::y)=decide ((a.toNat:Int)<(b.toNat:Int)):=by
 show(decide (a<b)||(a==b&&Op.bytesLess x y))=_
 have:(a==b)=false:=by simp[h]
 rw[this,Bool.false_and,Bool.or_false]
 by_cases hl:a<b
 ·rw[decide_eq_true hl,decide_eq_true]
  have:=UInt8.lt_iff_toNat_lt.1 hl
  omega
 ·rw[decide_eq_false hl,decide_eq_false]
  intro j
  exact hl (UInt8.lt_iff_toNat_lt.2 (by omega))
theorem Qh5 {x y:List UInt8} (h:x=[]\/y=[]):Op.bytesLess x y=decide (x.length<y.length):=by
 rcases h with rfl|rfl
 ·cases y with
  |nil=>rfl
  |cons a r=>simp[Op.bytesLess]
 ·cases x with
  |nil=>rfl
  |cons a r=>simp[Op.bytesLess]
theorem Qfj (a b:Nat):decide (a<b)=decide ((a:Int)<(b:Int)):=by
 by_cases h:a<b
 ·rw[decide_eq_true h,decide_eq_true (by omega)]
 ·rw[decide_eq_false h,decide_eq_false (by omega)]
theorem Qdv (s:ByteArray) (k:Nat) (h:k<s.size):s.data.toList.drop k=s[k]::s.data.toList.drop (k+1):=by
 rw[List.drop_eq_getElem_cons (by simpa using h)];rfl
theorem Qjx (k n:Int) (s:ByteArray) (z:Int) (q:ByteArray) (w:World) (N:s.size<=maxLen) (J:q.size<=maxLen):
 Calls Tryz.prog 59 #[.agg #[.int .i64 k,.int .i64 n,.string s],.agg #[.int .i64 k,.int .i64 z,.string q]] w fun e w'=>e=.returned (.bool (QcJ k n s.data.toList k z q.data.toList))/\Below w.heap.size w w':=by
 unfold maxLen at N J
 have D:∀o o',Below w.heap.size w ((w.alloc o).alloc o'):=fun o o'=>((Below.refl _ _).alloc (Nat.le_refl _) _).alloc (by simp) _
 by_cases hk:k=1
 ·subst hk
  have A:=Hk (show QcJ 1 n s.data.toList 1 z q.data.toList=decide (n<z) by simp[QcJ])
  go_enter Tryz.func59,Tryz.ntmps59
  go_wp2
  go_ret
  exact⟨Qal (by rw[A.out]),D _ _⟩
 have U:(k==1)=false:=by simp[hk]
 have A:=Hk (show QcJ k n s.data.toList k z q.data.toList=Op.bytesLess s.data.toList q.data.toList by simp[QcJ,hk])
 clear hk
 go_enter Tryz.func59,Tryz.ntmps59
 go_wp2
 go_loopw [5] (fun i wr=>∃j:Nat,j<=s.size/\j<=q.size/\i=.int .i64 j/\Op.bytesLess s.data.toList q.data.toList=Op.bytesLess (s.data.toList.drop j) (q.data.toList.drop j)/\∃d,wr=((w.alloc (.cells #[.int .i64 k,.int .i64 n,.string s] 24)).alloc (.cells #[.int .i64 k,.int .i64 z,.string q] 24)).drewN d) (fun i _=>s.size-(intOf i).toNat)
 case atStart=>exact⟨0,Nat.zero_le _,Nat.zero_le _,rfl,rfl,0,rfl⟩
 case round=>
  obtain⟨j,V,T,rfl,E,d,rfl⟩:=hrel
  have B:=Hk E
  clear E
  by_cases h1:j<s.size
  ·by_cases h1':j<q.size
   ·have F:=Hk (Qdv s j h1)
    have I:=Hk (Qdv q j h1')
    obtain⟨a,O⟩:∃a:UInt8,s[j]=a:=⟨_,rfl⟩
    obtain⟨b,M⟩:∃b:UInt8,q[j]=b:=⟨_,rfl⟩
    rw[O] at F
    rw[M] at I
    by_cases hab:a=b
    ·have K:((a.toNat:Int) != (b.toNat:Int))=false:=by rw[hab];simp
     have y:=Hk (show Op.bytesLess s.data.toList q.data.toList=Op.bytesLess (s.data.toList.drop (j+1)) (q.data.toList.drop (j+1)) by rw[B.out,F.out,I.out,hab,Qh4])
     clear hab
     go_wp2
     go_quiet (fail)
     go_wp2
     go_roundw
     case rel=>exact⟨j+1,by omega,by omega,by go_num,y.out,_,rfl⟩
     case measure=>simp[intOf];omega
    ·have K:((a.toNat:Int) != (b.toNat:Int))=true:=by
      have:a.toNat≠b.toNat:=fun h=>hab (UInt8.toNat_inj.1 h)
      simp;omega
     have y:=Hk (show Op.bytesLess s.data.toList q.data.toList=decide ((a.toNat:Int)<(b.toNat:Int)) by rw[B.out,F.out,I.out,Qma _ _ hab])
     clear hab
     go_wp2
     go_quiet (fail)
     go_wp2
     go_quiet (fail)
     go_wp2
     go_ret
     exact⟨Qal (by rw[A.out,y.out,Qfj]),below_drewN (below_drewN (below_drewN (D _ _) _) _) _⟩
   ·have y:=Hk (show Op.bytesLess s.data.toList q.data.toList=decide ((s.size:Int)<(q.size:Int)) by
     rw[B.out,Qh5 (Or.inr (List.drop_eq_nil_of_le (by simp;omega))),decide_eq_false (by simp;omega),decide_eq_false (by omega)])
    go_wp2
    go_ret
    exact⟨Qal (by rw[A.out,y.out,Qfj]),below_drewN (D _ _) _⟩
  ·have y:=Hk (show Op.bytesLess s.data.toList q.data.toList=decide ((s.size:Int)<(q.size:Int)) by
    rw[B.out,Qh5 (Or.inl (List.drop_eq_nil_of_le (by simp;omega)))]
    by_cases h:(s.size:Int)<(q.size:Int)
    ·rw[decide_eq_true h,decide_eq_true (by simp;omega)]
    ·rw[decide_eq_false h,decide_eq_false (by simp;omega)])
   go_wp2
   go_ret
   exact⟨Qal (by rw[A.out,y.out,Qfj]),below_drewN (D _ _) _⟩
theorem Qdw (b o n c:Nat) (cs:List Cl) (z:ByteArray) (w:World) (M:cs.length=n) (O:n<=100) (K:b<w.heap.size) (N:Qas w b o cs):
 Calls Tryz.prog 19 #[.slice (some ⟨b,o,none⟩) n c,.string z] w fun e w'=>e=.returned (.int .i64 (Qaq cs z.data.toList))/\Below w.heap.size w w':=by
 have J:Hid (cs.length=n):=M
 clear M
 go_enter Tryz.func19,Tryz.ntmps19
 go_wp2
 go_loopw [9] (fun i wr=>∃k:Nat,k<=n/\i=.int .i64 k/\(∀j (h:j<cs.length),j<k->(cs[j].1.data.toList==z.data.toList)=false)/\Below w.heap.size w wr) (fun i _=>n-(intOf i).toNat)
 case atStart=>exact⟨0,Nat.zero_le _,rfl,fun j _ h=>absurd h (by omega),Below.refl _ _⟩
 case round=>
  obtain⟨k,T,rfl,D,q⟩:=hrel
  have F:=Hk D
  clear D
  by_cases hlt:k<n
  ·have A:k<cs.length:=by have:=J.out;omega
   obtain⟨c1,c2⟩:=N k A
   have d1:=cK q K c1
   have d2:=cK q K c2
   clear c1 c2
   have hsz:=q.size
   have E:=Hk (show(cs[k].1.toList==z.toList)=(cs[k].1.data.toList==z.data.toList) by rw[ByteArray.toList_eq,ByteArray.toList_eq])
   cases y:(cs[k].1.data.toList==z.data.toList)
   ·have hp':=E.out.trans y
    have I:=Hk y
    clear y
    go_wp2
    go_roundw
    case rel=>
     refine⟨k+1,by omega,by go_num,fun j h hj=>?_,Qaa q (Qab _ _)⟩
     rcases Nat.lt_or_ge j k with B|B
     ·exact F.out j h B
     ·obtain rfl:j=k:=by omega
      exact I.out
    case measure=>simp[intOf];omega
   ·have hp':=E.out.trans y
    have I:=Hk y
    clear y
    go_wp2
    go_ret
    refine⟨QcK ?_,Qaa q (Qab _ _)⟩
    rw[Qaq,Qdd A I.out (fun j hj=>F.out j (by omega) hj)]
  ·go_wp2
   go_ret
   refine⟨QcK ?_,q⟩
   rw[Qaq,Qgf (fun j hj=>F.out j hj (by have:=J.out;omega))]
end Go.Proofs.YtofidnijfnhpaaaGreatDoor
