import Derived.Deep.RegionHeld3
import Derived.Shelf.Strings.BuilderK
import Derived.Deep.MidRow
import Derived.Test.YtjlgejennghhlaaGreatDoorR01
import Derived.Test.YtjlgejennghhlaaGreatDoorR35
import Derived.Test.YtjlgejennghhlaaGreatDoorR34
import Derived.Test.YtjlgejennghhlaaGreatDoorR12
import Derived.Test.YtjlgejennghhlaaGreatDoorR23
import Derived.Test.YtjlgejennghhlaaGreatDoorR32
import Derived.Test.YtjlgejennghhlaaGreatDoorR21
import Derived.Test.YtjlgejennghhlaaGreatDoorR19
import Derived.Test.YtjlgejennghhlaaGreatDoorR37
set_option linter.unusedSimpArgs false
set_option linter.unusedVariables false
set_option linter.unusedSectionVars false
set_option maxRecDepth 1000000
set_option maxHeartbeats 16000000
namespace Go.Proofs.YtjlgejennghhlaaGreatDoor
open Go.RowKit
theorem Qi5 {cs:List Cl} {rs:List (List Vl)} (h:Qae cs rs=true):∀r∈rs,∀x∈r,rvB x=true:=by
 intro r y x H;obtain⟨M,I,F⟩:=QaI h;obtain⟨K,J,N,E⟩:=Qan h;obtain⟨i,D,rfl⟩:=List.mem_iff_getElem.1 H;exact(QiY (F r y) i D (by rw[<-E r y];exact D)).2
theorem QpB {x:Vl} (h:rvB x=true):Qaz x.2.1:=by
 have:=Qa4 h;exact⟨this.2.1,this.2.2⟩
theorem Qdt {w:World} {v:Value} {rs:List (List Vl)} (h:QaG w v rs):∀r∈rs,∀x∈r,x.2.2.size<=maxLen:=by
 obtain⟨a,c,-,h|⟨b,o,-,-,D⟩⟩:=h
 ·rw[h];intro r y;simp at y
 ·intro r y x H;obtain⟨i,F,rfl⟩:=List.getElem_of_mem y;obtain⟨u,-,-,-,-,E,-⟩:=D i F;exact E x H
theorem QcU {cs:List Cl} {x y:ByteArray} (h:QaM cs x y=0):Qaq cs x.data.toList=some (pOf cs x)/\Qaq cs y.data.toList=some (pOf cs y)/\QbO cs (pOf cs y)=1/\pOf cs x≠pOf cs y:=by
 unfold QaM at h;unfold pOf;split at h
 ·rename_i p q D E
  rw[D,E];split at h
  ·cases h
  ·rename_i H
   split at h
   ·cases h
   ·rename_i F
    exact⟨rfl,rfl,by simpa using H,F⟩
 ·cases h
theorem grp_list {cs:List Cl} {x y:ByteArray} (h:QaM cs x y=0):QaR cs [x,y]=0:=by
 obtain⟨D,E,-,F⟩:=QcU h;have h5:x.data.toList≠y.data.toList:=fun e=>F (by unfold pOf;rw[e])
 unfold QaR;rw[if_neg (by simp)];simp[QhL,D,E,inS];exact fun e=>h5 (by rw[e])
theorem QkO {cs:List Cl} {x y:ByteArray}:Qak cs [x,y]=[pOf cs x,pOf cs y]:=rfl
theorem strs_two {w:World} {v:Value} {x y:ByteArray} (h:Qcm w v [x,y]):QbV w v x y:=by
 obtain⟨a,c,e,-,-,h|⟨b,o,rfl,E,D⟩⟩:=h
 ·simp at h
 ·exact⟨b,o,c,e,E,by simpa using D 0 (by simp),by simpa using D 1 (by simp)⟩
def grpOf (t:Tb) (x y:ByteArray):List Gr:=Qeu (pOf t.1 x) (pOf t.1 y) (Qa9 [pOf t.1 x] t.2)
def grpT (t:Tb) (x y:ByteArray):Tb:=(Qbd [pOf t.1 x,pOf t.1 y] t.1,QaA (grpOf t x y))
open Classical in
noncomputable def grpNo (t:Tb) (x y:ByteArray):Int:=if Qae t.1 t.2=false then 1 else if QaM t.1 x y≠0 then QaM t.1 x y else if∀g∈grpOf t x y,Qaz g.2 then 0 else 2
theorem grpNo_0 {t:Tb} {x y:ByteArray} (h:grpNo t x y=0):Qae t.1 t.2=true/\QaM t.1 x y=0/\∀g∈grpOf t x y,Qaz g.2:=by
 unfold grpNo at h;split at h
 ·cases h
 ·rename_i E
  split at h
  ·rename_i D;exact absurd h D
  ·rename_i D
   split at h
   ·rename_i F
    exact⟨by simpa using E,by simpa using D,F⟩
   ·cases h
theorem grp_wrong {t:Tb} {x y:ByteArray} {j:Jb} {W:World} {B g D:Nat} {us:List Value} (H:j.code=8) (N:j.op=⟨#[115,117,109]⟩) (hr:Qae t.1 t.2=true) (hs:Qcm W j.cols [x,y]) (ho:W.ownsRow B 51 1 (.slice (some ⟨g,0,none⟩) 1 D) 1 us) (hh:QaE W us [t.1]):∀h,Below W.heap.size W h->Calls Tryz.prog 96 #[.agg j.cells,.slice (some ⟨g,0,none⟩) 1 D] h fun e w'=>e=.returned (QbN (QaM t.1 x y))/\Below h.heap.size h w':=by
 intro h E;obtain⟨U,ah,ai,ag⟩:=Qan hr;obtain⟨b,o,c,K,J,I,M⟩:=Qcs ho hh U;refine QfN g 0 1 D b o t.1.length c j _ h H (by decide) (Nat.lt_of_lt_of_le J E.size) (cK E J K) (fun W2 hW2=>?_);have F:=bel_then E hW2;obtain⟨Z,no,V,e,O,s0,s1⟩:=(strs_two hs).below F;exact group_any b o t.1.length c Z no V t.1 x y j W2 e N O s0 s1 rfl (by omega) (Nat.lt_of_lt_of_le I F.size) (M.below F I)
theorem grp_cols {t:Tb} {x y:ByteArray} {j:Jb} {oa:Option Addr} {J:Nat} {w:World} (h:j.code=8) (M:j.op=⟨#[115,117,109]⟩) (H:j.outs=.slice oa 1 J) (hs:Qcm w j.cols [x,y]) (V:Qae t.1 t.2=true) (he:QaM t.1 x y=0):∀W B g D us,Below w.heap.size w W->W.ownsRow B 51 1 (.slice (some ⟨g,0,none⟩) [t].length D) [t].length us->QaE W us ([t].map (·.1))->Calls Tryz.prog 59 #[.agg j.cells,.slice (some ⟨g,0,none⟩) [t].length D] W fun e w'=>∃v us,e=.returned (.tuple #[v,.nilIface])/\w'.ownsRow W.heap.size 51 1 v 1 us/\Qbk w' W.heap.size us (grpT t x y).1/\Below W.heap.size W w':=by
 intro W B g D us N O U;have Z:Qa3 j.code=(((1:Nat):Int),((1:Nat):Int)):=by rw[h];rfl
 obtain⟨ab,ae,af,ad⟩:=Qan V;obtain⟨b,o,c,I,F,E,K⟩:=Qcs O U ab;refine cols_ok _ oa D J j 1 1 (grpT t x y).1 W H Z (by decide) (by decide) (fun W' hW'=>?_) (fun W' hW'=>QcT g 0 1 D b o t.1.length c t.1 [x,y] j W' h (by decide) (Nat.lt_of_lt_of_le F hW'.size) (cK hW' F I) ((hs.below N).below hW') (grp_list he) rfl (by omega) (Nat.lt_of_lt_of_le E hW'.size) (K.below hW' E));have:=grp_wrong h M V (hs.below N) O U W' hW';rw[he] at this;exact this
theorem Qe5 {t:Tb} {x y:ByteArray} (E:Qae t.1 t.2=true) (he:QaM t.1 x y=0):∀r∈t.2,Qaz (vAt r (pOf t.1 y)).2.1:=by
 intro r h;obtain⟨J,I,H,D⟩:=Qan E;have F:=Qap (QcU he).2.1;rw[Qdh (by rw[D r h];exact F)];exact QpB (Qi5 E r h _ (List.getElem_mem _))
theorem do_grp_bad (tb h tcap:Nat) (t:Tb) (x y:ByteArray) (j:Jb) (oa:Option Addr) (V:Nat) (w:World) (D:j.code=8) (I:j.op=⟨#[115,117,109]⟩) (J:j.outs=.slice oa 1 V) (N:Qcm w j.cols [x,y]) (K:QaZ w tb h [t]) (E:tb<w.heap.size) (O:grpNo t x y≠0):
 Calls Tryz.prog 61 #[.agg j.cells,.slice (some ⟨tb,h,none⟩) 1 tcap] w fun e w'=>e=.returned (.tuple #[.slice none 0 0,QbN (grpNo t x y)])/\Below w.heap.size w w':=by
 have ac:Qa3 j.code=(((1:Nat):Int),((1:Nat):Int)):=by rw[D];rfl
 cases hr:Qae t.1 t.2
 ·have:grpNo t x y=1:=by unfold grpNo;rw[if_pos hr]
  rw[this];exact QhI tb h tcap [t] j w K E (by simp) ⟨t,by simp,hr⟩
 ·have H:∀u∈[t],Qae u.1 u.2=true:=by intro u hu;simp at hu;rw[hu];exact hr
  by_cases he:QaM t.1 x y=0
  ·by_cases hS:∀g∈grpOf t x y,Qaz g.2
   ·exfalso;apply O;unfold grpNo;rw[if_neg (by simp[hr]),if_neg (by simpa using he),if_pos hS]
   ·have:grpNo t x y=2:=by unfold grpNo;rw[if_neg (by simp[hr]),if_neg (by simpa using he),if_neg hS]
    rw[this];obtain⟨ad,au,av,U⟩:=Qan hr;obtain⟨vc,vr,c0,c1,hc,M⟩:=K 0 (by simp);obtain⟨hp,hq,-,-⟩:=QcU he;refine Qi4 tb h tcap [t] j w K E (by simp) (by simp) H (grpT t x y).1 1 2 (by decide) (grp_cols D I J N hr he) (fun W F=>?_);obtain⟨nb,no,cc,e,aa,s0,s1⟩:=(strs_two N).below F;exact rowsOf_group_bad tb h 1 tcap nb no cc _ _ vc vr t.1 t.2 x y j W D I e aa s0 s1 hp hq (by decide) (Nat.lt_of_lt_of_le E F.size) ((F.cell (p:=⟨tb,h,none⟩) E).trans (by simpa using c0)) ((F.cell (p:=⟨tb,h+1,none⟩) E).trans (by simpa using c1)) (hc.below F) (M.below F) ad (by omega) U (by omega) (Qe5 hr he) (Qdt M) hS
  ·have hn:grpNo t x y=QaM t.1 x y:=by unfold grpNo;rw[if_neg (by simp[hr]),if_pos he]
   rw[hn];refine QhJ tb h tcap [t] j w K E (by simp) (by simp) H _ he ?_;intro W B g Z us F ho hh;exact Qdq _ oa Z V j 1 1 _ W J ac (by decide) he (grp_wrong D I hr (N.below F) ho hh)
theorem grp_len (t:Tb) (x y:ByteArray):(QaA (grpOf t x y)).length<=t.2.length:=by
 have h:=QfG (pOf t.1 x) (pOf t.1 y) (Qa9 [pOf t.1 x] t.2);rw[QbJ] at h;unfold QaA;rw[List.length_map];exact h
theorem QgC {cs:List Cl} {D:List Nat} (h:∀z∈cs,z.1.size<=maxLen):∀z∈Qbd D cs,z.1.size<=maxLen:=by
 intro z y;unfold Qbd at y;obtain⟨k,-,rfl⟩:=List.mem_map.1 y
 by_cases hk:k<cs.length
 ·rw[List.getElem?_eq_getElem hk];exact h _ (List.getElem_mem hk)
 ·rw[List.getElem?_eq_none (by omega)];exact Nat.zero_le _
theorem do_grp_ok (tb h tcap:Nat) (t:Tb) (x y:ByteArray) (j:Jb) (oa:Option Addr) (oc:Nat) (w:World) (D:j.code=8) (H:j.op=⟨#[115,117,109]⟩) (J:j.outs=.slice oa 1 oc) (V:Qcm w j.cols [x,y]) (N:QaZ w tb h [t]) (E:tb<w.heap.size) (K:grpNo t x y=0):
 Calls Tryz.prog 61 #[.agg j.cells,.slice (some ⟨tb,h,none⟩) 1 tcap] w fun e w'=>∃g c,e=.returned (.tuple #[.slice (some ⟨g,0,none⟩) 1 c,.nilIface])/\w.heap.size<=g/\g<w'.heap.size/\QbR w' w.heap.size g [grpT t x y]/\Below w.heap.size w w':=by
 obtain⟨F,he,hS⟩:=grpNo_0 K;obtain⟨Z,av,aw,M⟩:=Qan F;obtain⟨vc,vr,c0,c1,hc,I⟩:=N 0 (by simp);obtain⟨hp,hq,-,-⟩:=QcU he;refine Qd0 tb h tcap [t] j w N E (by simp) (by simp) (by intro u U;simp at U;rw[U];exact F) (grpT t x y).1 (grpT t x y).2 [] (by have:=grp_len t x y;show(QaA (grpOf t x y)).length<=60;omega) (QgC (Qbp hc)) (grp_cols D H J V F he) (fun W hW=>?_);obtain⟨nb,no,cc,e,O,s0,s1⟩:=(strs_two V).below hW;refine(rowsOf_group_ok tb h 1 tcap nb no cc _ _ vc vr t.1 t.2 x y j W D H e O s0 s1 hp hq (by decide) (Nat.lt_of_lt_of_le E hW.size) ((hW.cell (p:=⟨tb,h,none⟩) E).trans (by simpa using c0)) ((hW.cell (p:=⟨tb,h+1,none⟩) E).trans (by simpa using c1)) (hc.below hW) (I.below hW) Z (by omega) M (by omega) (Qe5 F he) (Qdt I) hS).mono ?_;rintro e w' ⟨v1,aa,h1,h2,h3,hb⟩;exact⟨v1,.slice none 0 0,aa,[],h1,h2,h3,World.ownsRow_nil _ _ _ _,Qab.nil _ _,hb⟩
end Go.Proofs.YtjlgejennghhlaaGreatDoor
namespace Go.Proofs.YtjlgejennghhlaaGreatDoor.Mx
open Go.RowKit
theorem group_any (b o n c I K cc:Nat) (cs:List Cl) (x y:ByteArray) (j:Jb) (w:World) (hj:j.cols=.slice (some ⟨I,K,none⟩) 2 cc) (al:j.op=⟨#[109,97,120]⟩) (Z:I<w.heap.size) (s0:w.cell? ⟨I,K,none⟩=some (.string x)) (s1:w.cell? ⟨I,K+1,none⟩=some (.string y))
 (hn:cs.length=n) (aq:n<=100) (hb:b<w.heap.size) (hc:Qau w b o cs):
 Calls Tryz.prog 129 #[.agg j.cells,.slice (some ⟨b,o,none⟩) n c] w fun e w'=>e=.returned (QbN (QaM cs x y))/\Below w.heap.size w w':=by
 have hP:=fun nm W (h1:Below w.heap.size w W)=>QaH b o n c cs nm W hn aq (by have:=h1.size;omega) (hc.below h1 hb)
 have hJ:=Qcf w j 50;have E:=Qaa w (.cells j.cells 50);obtain⟨W,N⟩:∃W,W=w.alloc (.cells j.cells 50):=⟨_,rfl⟩;rw[<-N] at hJ E;have e4:=cell_regrown (show W.cell? ⟨w.heap.size,4,none⟩=some (.slice (some ⟨I,K,none⟩) 2 cc) from by have:=hJ 4 j.cols rfl;rw[hj] at this;exact this);have e5:=cell_regrown (cK E Z s0);have e6:=cell_regrown (cK E Z s1);have C1:∀nm d os,_:=fun nm d os=>Calls.regrown_of (hP nm (Sort.grow (redrawn W d) os) (bel_then E (below_regrown _ _ _)))
 have HB:=Hk E;have HC:=Hk (Ai hn hc);obtain⟨P,V⟩:∃P,QaB cs x.data.toList=P:=⟨_,rfl⟩;obtain⟨Q,O⟩:∃Q,QaB cs y.data.toList=Q:=⟨_,rfl⟩;have F:=Hk (Ai V O);clear hJ E hn hc hP;unfold Jb.cells at N⊢;rw[hj,al] at N⊢;go_enter Tryz.func129,Tryz.ntmps129;go_wp2;rw[<-N];clear N;refine wp_region_quiet_below (by kernel_rfl) (by kernel_rfl) ?_
 repeat(any_goals(first|go_big_quiet_step (exact C1 _ _ _)|quiet_step (exact C1 _ _ _)))
 refine wpQuiet_nil ?_;intro _ ai;obtain⟨⟨dq,ab⟩,ad⟩:=ai;subst ad;have D:=Hk (bel_then HB.out (below_regrown W dq ab));clear e4 e5 e6 C1 HB;generalize Sort.grow (redrawn W dq) ab=W5 at*
 try rw[V]
 try rw[O]
 clear V O
 cases hpx:Qaq cs x.data.toList with
 |none=>
  have h:QaM cs x y=7:=by unfold QaM;rw[hpx]
  have H:=Hk h;have J:P= -1:=by rw[<-F.out.1];exact QcI hpx
  subst J;clear hpx h F;go_wp2;go_ret;exact⟨by rw[H.out,QaT (by decide)];rfl,D.out⟩
 |some p=>
  have J:P=(p:Int):=by rw[<-F.out.1];exact QaN hpx
  cases hqy:Qaq cs y.data.toList with
  |none=>
   have h:QaM cs x y=7:=by unfold QaM;rw[hpx,hqy]
   have H:=Hk h;have M:Q= -1:=by rw[<-F.out.2];exact QcI hqy
   subst M J;have ar:¬((p:Int)<0):=by omega
   clear hpx hqy h F;go_wp2;go_ret;exact⟨by rw[H.out,QaT (by decide)];rfl,D.out⟩
  |some q=>
   have M:Q=(q:Int):=by rw[<-F.out.2];exact QaN hqy
   have ac:=Qap hqy;have U:=((HC.out.2 q ac).2);rw[Qd6 ac] at U;have d5:=cK D.out hb U;have aC:(q:Int)<(n:Int):=by have:=HC.out.1;omega
   have ar:¬((p:Int)<0):=by omega
   have aD:¬((q:Int)<0):=by omega
   have h:QaM cs x y=if QbO cs q≠1 then 13 else if p=q then 9 else 0:=by unfold QaM;rw[hpx,hqy]
   clear hpx hqy U;subst M J;generalize QbO cs q=kd at*
   by_cases hk:kd=1
   ·subst hk;rw[if_neg (by decide)] at h
    by_cases aa:p=q
    ·subst aa;rw[if_pos rfl] at h;have H:=Hk h;clear h;go_wp2;go_ret;exact⟨by rw[H.out,QaT (by decide)];rfl,D.out⟩
    ·rw[if_neg aa] at h;have H:=Hk h;clear h;have hpq':¬((p:Int)=(q:Int)):=by omega
     go_wp2;go_ret;exact⟨by rw[H.out,QeK];rfl,D.out⟩
   ·rw[if_pos hk] at h;have H:=Hk h;clear h;go_wp2;go_ret;exact⟨by rw[H.out,QaT (by decide)];rfl,D.out⟩
theorem grouped_ok (v:Value) (us:List Value) (rs:List (List Vl)) (B m p q:Nat) (w:World) (U:w.ownsRow B 84 1 v rs.length us) (V:Qab w B us rs) (O:∀r∈rs,r.length=m) (h1:1<=m) (K:m<=100) (F:rs.length<=100) (J:p<m) (N:q<m) (E:∀r∈rs,Qaz (vAt r q).2.1) (I:∀r∈rs,∀x∈r,x.2.2.size<=maxLen) (H:B<=w.heap.size) (Z:∀g∈Qev p q (Qa9 [p] rs),Qaz g.2):
 Calls Tryz.prog 148 #[v,.int .i64 p,.int .i64 q,.string ⟨#[109,97,120]⟩] w fun e w'=>Below B w w'/\Kept v w w'/\∃D y,e=.returned (.tuple #[D,.nilIface])/\w'.ownsRow B 84 1 D (QaA (Qev p q (Qa9 [p] rs))).length y/\Qab w' B y (QaA (Qev p q (Qa9 [p] rs))):=by
 refine(QfM v us rs B m p q w U V O h1 K F J N E I H).mono ?_;rintro e w' ⟨a,b,⟨-,D,y,M,c,d⟩|⟨h,-⟩⟩
 ·exact⟨a,b,D,y,M,c,d⟩
 ·exact absurd Z h
theorem grouped_bad (v:Value) (us:List Value) (rs:List (List Vl)) (B m p q:Nat) (w:World) (K:w.ownsRow B 84 1 v rs.length us) (O:Qab w B us rs) (M:∀r∈rs,r.length=m) (U:1<=m) (I:m<=100) (D:rs.length<=100) (H:p<m) (J:q<m) (y:∀r∈rs,Qaz (vAt r q).2.1) (F:∀r∈rs,∀x∈r,x.2.2.size<=maxLen) (E:B<=w.heap.size) (N:¬∀g∈Qev p q (Qa9 [p] rs),Qaz g.2):
 Calls Tryz.prog 148 #[v,.int .i64 p,.int .i64 q,.string ⟨#[109,97,120]⟩] w fun e w'=>Below B w w'/\Kept v w w'/\e=.returned (.tuple #[.slice none 0 0,QbN 2]):=by
 refine(QfM v us rs B m p q w K O M U I D H J y F E).mono ?_;rintro e w' ⟨a,b,⟨h,-⟩|⟨-,h⟩⟩
 ·exact absurd h N
 ·exact⟨a,b,h⟩
theorem rowsOf_group_ok (tb H tk tcap h no cc p q:Nat) (vc vr:Value) (cs:List Cl) (rs:List (List Vl)) (x y:ByteArray) (j:Jb) (w:World) (M:j.code=8) (ap:j.op=⟨#[109,97,120]⟩) (hj:j.cols=.slice (some ⟨h,no,none⟩) 2 cc) (aD:h<w.heap.size) (s0:w.cell? ⟨h,no,none⟩=some (.string x)) (s1:w.cell? ⟨h,no+1,none⟩=some (.string y)) (hp:Qaq cs x.data.toList=some p) (hq:Qaq cs y.data.toList=some q) (bv:0<tk) (ah:tb<w.heap.size) (t0:w.cell? ⟨tb,H,none⟩=some vc) (t1:w.cell? ⟨tb,H+1,none⟩=some vr)
 (hc:Qax w vc cs) (hr:QaG w vr rs) (h1:1<=cs.length) (h6:cs.length<=40) (hl:∀r∈rs,r.length=cs.length) (az:rs.length<=100) (aq:∀r∈rs,Qaz (vAt r q).2.1) (aw:∀r∈rs,∀x∈r,x.2.2.size<=maxLen) (hS:∀g∈Qev p q (Qa9 [p] rs),Qaz g.2):
 Calls Tryz.prog 102 #[.agg j.cells,.slice (some ⟨tb,H,none⟩) tk tcap] w fun e w'=>∃v1 us1,e=.returned (.tuple #[v1,.slice none 0 0,.nilIface])/\w'.ownsRow w.heap.size 84 1 v1 (QaA (Qev p q (Qa9 [p] rs))).length us1/\Qab w' w.heap.size us1 (QaA (Qev p q (Qa9 [p] rs)))/\Below w.heap.size w w':=by
 have bw:=mkF;have aA:=Hk (fun W (hW:Below w.heap.size w W)=>Qa2 vr rs cs.length W (hr.below hW) hl h1 (by omega) az);have a2:=Qap hp;have a6:=Qap hq;have aY:=Hk (fun(v:Value) (us:List Value) W (hv:W.ownsRow (w.heap.size+1) 84 1 v rs.length us) (hH:Qab W (w.heap.size+1) us rs) (hs:w.heap.size+1<=W.heap.size)=>grouped_ok v us rs (w.heap.size+1) cs.length p q W hv hH hl h1 (by omega) az a2 a6 aq aw hs hS);obtain⟨J,K,E,rfl,ag,Z⟩:=QbI hc h1;have aB:Hid (∀(v:Value) (nm:ByteArray) (k:Int) (W:World),Below w.heap.size w W->(v=.slice (some ⟨J,K,none⟩) cs.length E/\nm=x/\k=(p:Int)\/v=.slice (some ⟨J,K,none⟩) cs.length E/\nm=y/\k=(q:Int))->Calls Tryz.prog 133 #[v,.string nm] W fun e w'=>e=.returned (.int .i64 k)/\Below W.heap.size W w'):=by
  refine Hk ?_;rintro v nm k W hW (⟨rfl,rfl,rfl⟩|⟨rfl,rfl,rfl⟩)
  ·rw[<-QaN hp];exact QaH J K cs.length E cs nm W rfl (by omega) (by have:=hW.size;omega) (Z.below hW ag)
  ·rw[<-QaN hq];exact QaH J K cs.length E cs nm W rfl (by omega) (by have:=hW.size;omega) (Z.below hW ag)
 have htk':(0:Int)<(tk:Int):=by omega
 clear hl hc Z hp hq aq aw;obtain⟨ra,aW,rfl,-⟩:=hr;have ax:QaC (w.alloc (.cells j.cells 50)) w.heap.size j:=fun k v hk=>by rw[World.cell?_alloc_at _ _ _ _ rfl];exact hk
 have N:=Hk ax;clear ax;unfold Jb.cells at N⊢;rw[M,hj,ap] at N⊢;have ak:=Hk (Ai M (Ai hj ap));clear M hj ap
 all_goals
  go_enter Tryz.func102,Tryz.ntmps102;go_wp2_with fail
  go_cut [7,8] (fun p v wx=>∃(I:Nat) (us:List Value),p=.pointer (some ⟨I,0,none⟩)/\wx.cell? ⟨I,0,none⟩=some (.slice (some ⟨J,K,none⟩) cs.length E)/\I<wx.heap.size/\wx.ownsRow (w.heap.size+1) 84 1 v rs.length us/\Qab wx (w.heap.size+1) us rs/\QaC wx w.heap.size j/\Below w.heap.size w wx/\v.ownBlock≠some I)
  case first=>
   go_region_held3 (fun w'=>w'.cell? ⟨tb,H,none⟩=some (.slice (some ⟨J,K,none⟩) cs.length E)/\w'.cell? ⟨tb,H+1,none⟩=some (.slice ra rs.length aW))
    (first|(go_keep;done)|exact⟨(World.cell?_setCell_other _ _ _ _ (by intro e;simp at e;try omega)).trans k0,(World.cell?_setCell_other _ _ _ _ (by intro e;simp at e;try omega)).trans k1⟩)
    (first|(go_at_call 137;refine(aA.out _ (by first|exact(Qaa _ _).drew|exact(bel_box (Qaa _ _) _).drew)).mono ?_;rintro e w1 ⟨v1,us,rfl,aa,av,D⟩;have F:=bel_then (show Below w.heap.size w _ from(by first|exact(Qaa _ _).drew|exact(bel_box (Qaa _ _) _).drew)) D;have k0:=cK F ah t0;have k1:=cK F ah t1;have bx:tb<w1.heap.size:=Nat.lt_of_lt_of_le ah F.size;(try(have kb:=(D.cell (p:=⟨w.heap.size+1,0,none⟩) (by simp)).trans (show _=some (Value.slice none 0 0) by simp);have kf:=(D.frozen (p:=⟨w.heap.size+1,0,none⟩) (by simp)).trans (show _=false by simp);have kz:w.heap.size+1<w1.heap.size:=by(have:=D.size;simp at this;omega)))))
   all_goals go_wp2_with fail
   all_goals go_meet
   ·have ao:QaC w1 w.heap.size j:=fun k v hk=>(D.cell (p:=⟨w.heap.size,k,none⟩) (by simp)).trans (by simpa using N.out k v hk)
    exact⟨w1.heap.size,us,rfl,by simp,by simp,(own_mono (by simp) aa).alloc _,(av.mono (by simp)).below (Qaa _ _),ao.below (Qaa _ _) (by have:=D.size;simp at this;omega),bel_box F _,Qds aa⟩
   ·have ao:QaC w1 w.heap.size j:=fun k v hk=>(D.cell (p:=⟨w.heap.size,k,none⟩) (by simp;omega)).trans (by simpa using N.out k v hk)
    exact⟨w.heap.size+1,us,rfl,World.cell?_setCell_same _ _ _ kb,by simpa using kz,own_mono (by simp) (ownsRow_setCell_below aa (by simp) _),(Qab.set av (by simp)).mono (by simp),fun k v hk=>(World.cell?_setCell_other _ _ _ _ (by intro e;simp at e)).trans (ao k v hk),F.setCell (by show w.heap.size<=w.heap.size+1;omega) _,QcS aa (by simp)⟩
  case rest=>
   obtain⟨I,us,rfl,a7,al,hv,hH,hJ,U,ae⟩:=hcut;have bu:=U.size;have j1:wc.cell? ⟨w.heap.size,1,none⟩=some (.int .i64 8):=by have:=hJ 1 (.int .i64 j.code) rfl;rw[ak.out.1] at this;exact this
   have j4:wc.cell? ⟨w.heap.size,4,none⟩=some (.slice (some ⟨h,no,none⟩) 2 cc):=by have:=hJ 4 j.cols rfl;rw[ak.out.2.1] at this;exact this
   have j5:wc.cell? ⟨w.heap.size,5,none⟩=some (.string ⟨#[109,97,120]⟩):=by have:=hJ 5 (.string j.op) rfl;rw[ak.out.2.2] at this;exact this
   have au:=hJ.lt;have z4:=cK U aD s0;have z5:=cK U aD s1;have KX:Hid (∀V,Below wc.heap.size wc V->V.cell? ⟨I,0,none⟩=some (.slice (some ⟨J,K,none⟩) cs.length E)/\V.cell? ⟨w.heap.size,4,none⟩=some (.slice (some ⟨h,no,none⟩) 2 cc)/\V.cell? ⟨w.heap.size,5,none⟩=some (.string ⟨#[109,97,120]⟩)/\V.cell? ⟨h,no,none⟩=some (.string x)/\V.cell? ⟨h,no+1,none⟩=some (.string y)):=Hk (fun V hV=>⟨cK hV al a7,cK hV au j4,cK hV au j5,cK hV (by omega) z4,cK hV (by omega) z5⟩);have HB:=Hk (Ai U (Ai hv hH));obtain⟨xa,xc,rfl⟩:=own_slice hv;have KY:Hid (∀V V',Below wc.heap.size wc V->Below (w.heap.size+1) V V'->Kept (.slice xa rs.length xc) V V'->V'.cell? ⟨I,0,none⟩=some (.slice (some ⟨J,K,none⟩) cs.length E)/\V'.cell? ⟨w.heap.size,4,none⟩=some (.slice (some ⟨h,no,none⟩) 2 cc)/\V'.cell? ⟨w.heap.size,5,none⟩=some (.string ⟨#[109,97,120]⟩)/\V'.cell? ⟨h,no,none⟩=some (.string x)/\V'.cell? ⟨h,no+1,none⟩=some (.string y)):=Hk (fun V V' hV hV' hk=>by
    obtain⟨y0,y1,y2,y3,y4⟩:=KX.out V hV;have hs:=hV.size;exact⟨(hk ⟨I,0,none⟩ (Nat.lt_of_lt_of_le al hs) ae).trans y0,cK hV' (by omega) y1,cK hV' (by omega) y2,cK hV' (by omega) y3,cK hV' (by omega) y4⟩)
   clear U hv hH hJ aA N t0 t1 s0 s1 ae;have aj:=Hk (Ai (show Below wc.heap.size wc wc.drew from(Below.refl _ _).drew) HB.out.1.drew);go_wp2_with fail
   go_region_held3 (fun V=>V.cell? ⟨I,0,none⟩=some (.slice (some ⟨J,K,none⟩) cs.length E)/\V.cell? ⟨w.heap.size,4,none⟩=some (.slice (some ⟨h,no,none⟩) 2 cc)/\V.cell? ⟨w.heap.size,5,none⟩=some (.string ⟨#[109,97,120]⟩)/\V.cell? ⟨h,no,none⟩=some (.string x)/\V.cell? ⟨h,no+1,none⟩=some (.string y))
    (first|(go_keep;done)|exact KY.out _ _ O.out aF.out bb.out|exact KX.out _ O.out|exact KX.out _ aH.out)
    (first|(go_at_call 148;refine(aY.out _ us _ (owns_below HB.out.2.1 O.out) (HB.out.2.2.below O.out) (by have:=O.out.size;omega)).mono ?_;rintro e w3 ⟨aE,ay,v3,a4,rfl,aI,aJ⟩;have aF:=Hk aE;have bb:=Hk ay;have aK:=Hk (Ai aI aJ);clear aE ay aI aJ)|(go_at_call 133;refine(aB.out _ _ _ _ aG.out (by first|exact Or.inl ⟨rfl,rfl,rfl⟩|exact Or.inr ⟨rfl,rfl,rfl⟩)).mono ?_;rintro e w2 ⟨rfl,aC⟩;have O:=Hk (bel_then aH.out aC);have a1:=Hk (bel_then aG.out aC))|(go_at_call 133;refine(aB.out _ _ _ _ aj.out.2 (by first|exact Or.inl ⟨rfl,rfl,rfl⟩|exact Or.inr ⟨rfl,rfl,rfl⟩)).mono ?_;rintro e w1 ⟨rfl,D⟩;have aH:=Hk (bel_then aj.out.1 D);have aG:=Hk (bel_then aj.out.2 D)))
   go_wp2
   go_ret3
   exact⟨_,a4,rfl,own_mono (by omega) aK.out.1,aK.out.2.mono (by omega),a1.out.trans (aF.out.mono (Nat.le_succ _))⟩
theorem rowsOf_group_bad (tb H tk tcap h no cc p q:Nat) (vc vr:Value) (cs:List Cl) (rs:List (List Vl)) (x y:ByteArray) (j:Jb) (w:World) (M:j.code=8) (ap:j.op=⟨#[109,97,120]⟩) (hj:j.cols=.slice (some ⟨h,no,none⟩) 2 cc) (aD:h<w.heap.size) (s0:w.cell? ⟨h,no,none⟩=some (.string x)) (s1:w.cell? ⟨h,no+1,none⟩=some (.string y)) (hp:Qaq cs x.data.toList=some p) (hq:Qaq cs y.data.toList=some q) (bq:0<tk) (ah:tb<w.heap.size) (t0:w.cell? ⟨tb,H,none⟩=some vc) (t1:w.cell? ⟨tb,H+1,none⟩=some vr)
 (hc:Qax w vc cs) (hr:QaG w vr rs) (h1:1<=cs.length) (h6:cs.length<=40) (hl:∀r∈rs,r.length=cs.length) (az:rs.length<=100) (aq:∀r∈rs,Qaz (vAt r q).2.1) (aw:∀r∈rs,∀x∈r,x.2.2.size<=maxLen) (hS:¬∀g∈Qev p q (Qa9 [p] rs),Qaz g.2):
 Calls Tryz.prog 102 #[.agg j.cells,.slice (some ⟨tb,H,none⟩) tk tcap] w fun e w'=>e=.returned (.tuple #[.slice none 0 0,.slice none 0 0,QbN 2])/\Below w.heap.size w w':=by
 have br:=mkF;have aA:=Hk (fun W (hW:Below w.heap.size w W)=>Qa2 vr rs cs.length W (hr.below hW) hl h1 (by omega) az);have aY:=Qap hp;have a1:=Qap hq;have aU:=Hk (fun(v:Value) (us:List Value) W (hv:W.ownsRow (w.heap.size+1) 84 1 v rs.length us) (hH:Qab W (w.heap.size+1) us rs) (hs:w.heap.size+1<=W.heap.size)=>grouped_bad v us rs (w.heap.size+1) cs.length p q W hv hH hl h1 (by omega) az aY a1 aq aw hs hS);obtain⟨J,K,E,rfl,ag,Z⟩:=QbI hc h1;have aB:Hid (∀(v:Value) (nm:ByteArray) (k:Int) (W:World),Below w.heap.size w W->(v=.slice (some ⟨J,K,none⟩) cs.length E/\nm=x/\k=(p:Int)\/v=.slice (some ⟨J,K,none⟩) cs.length E/\nm=y/\k=(q:Int))->Calls Tryz.prog 133 #[v,.string nm] W fun e w'=>e=.returned (.int .i64 k)/\Below W.heap.size W w'):=by
  refine Hk ?_;rintro v nm k W hW (⟨rfl,rfl,rfl⟩|⟨rfl,rfl,rfl⟩)
  ·rw[<-QaN hp];exact QaH J K cs.length E cs nm W rfl (by omega) (by have:=hW.size;omega) (Z.below hW ag)
  ·rw[<-QaN hq];exact QaH J K cs.length E cs nm W rfl (by omega) (by have:=hW.size;omega) (Z.below hW ag)
 have htk':(0:Int)<(tk:Int):=by omega
 clear hl hc Z hp hq aq aw;obtain⟨ra,aS,rfl,-⟩:=hr;have ax:QaC (w.alloc (.cells j.cells 50)) w.heap.size j:=fun k v hk=>by rw[World.cell?_alloc_at _ _ _ _ rfl];exact hk
 have N:=Hk ax;clear ax;unfold Jb.cells at N⊢;rw[M,hj,ap] at N⊢;have ak:=Hk (Ai M (Ai hj ap));clear M hj ap
 all_goals
  go_enter Tryz.func102,Tryz.ntmps102;go_wp2_with fail
  go_cut [7,8] (fun p v wx=>∃(I:Nat) (us:List Value),p=.pointer (some ⟨I,0,none⟩)/\wx.cell? ⟨I,0,none⟩=some (.slice (some ⟨J,K,none⟩) cs.length E)/\I<wx.heap.size/\wx.ownsRow (w.heap.size+1) 84 1 v rs.length us/\Qab wx (w.heap.size+1) us rs/\QaC wx w.heap.size j/\Below w.heap.size w wx/\v.ownBlock≠some I)
  case first=>
   go_region_held3 (fun w'=>w'.cell? ⟨tb,H,none⟩=some (.slice (some ⟨J,K,none⟩) cs.length E)/\w'.cell? ⟨tb,H+1,none⟩=some (.slice ra rs.length aS))
    (first|(go_keep;done)|exact⟨(World.cell?_setCell_other _ _ _ _ (by intro e;simp at e;try omega)).trans k0,(World.cell?_setCell_other _ _ _ _ (by intro e;simp at e;try omega)).trans k1⟩)
    (first|(go_at_call 137;refine(aA.out _ (by first|exact(Qaa _ _).drew|exact(bel_box (Qaa _ _) _).drew)).mono ?_;rintro e w1 ⟨v1,us,rfl,aa,av,D⟩;have F:=bel_then (show Below w.heap.size w _ from(by first|exact(Qaa _ _).drew|exact(bel_box (Qaa _ _) _).drew)) D;have k0:=cK F ah t0;have k1:=cK F ah t1;have bs:tb<w1.heap.size:=Nat.lt_of_lt_of_le ah F.size;(try(have kb:=(D.cell (p:=⟨w.heap.size+1,0,none⟩) (by simp)).trans (show _=some (Value.slice none 0 0) by simp);have kf:=(D.frozen (p:=⟨w.heap.size+1,0,none⟩) (by simp)).trans (show _=false by simp);have kz:w.heap.size+1<w1.heap.size:=by(have:=D.size;simp at this;omega)))))
   all_goals go_wp2_with fail
   all_goals go_meet
   ·have ao:QaC w1 w.heap.size j:=fun k v hk=>(D.cell (p:=⟨w.heap.size,k,none⟩) (by simp)).trans (by simpa using N.out k v hk)
    exact⟨w1.heap.size,us,rfl,by simp,by simp,(own_mono (by simp) aa).alloc _,(av.mono (by simp)).below (Qaa _ _),ao.below (Qaa _ _) (by have:=D.size;simp at this;omega),bel_box F _,Qds aa⟩
   ·have ao:QaC w1 w.heap.size j:=fun k v hk=>(D.cell (p:=⟨w.heap.size,k,none⟩) (by simp;omega)).trans (by simpa using N.out k v hk)
    exact⟨w.heap.size+1,us,rfl,World.cell?_setCell_same _ _ _ kb,by simpa using kz,own_mono (by simp) (ownsRow_setCell_below aa (by simp) _),(Qab.set av (by simp)).mono (by simp),fun k v hk=>(World.cell?_setCell_other _ _ _ _ (by intro e;simp at e)).trans (ao k v hk),F.setCell (by show w.heap.size<=w.heap.size+1;omega) _,QcS aa (by simp)⟩
  case rest=>
   obtain⟨I,us,rfl,a2,al,hv,hH,hJ,U,ae⟩:=hcut;have bp:=U.size;have j1:wc.cell? ⟨w.heap.size,1,none⟩=some (.int .i64 8):=by have:=hJ 1 (.int .i64 j.code) rfl;rw[ak.out.1] at this;exact this
   have j4:wc.cell? ⟨w.heap.size,4,none⟩=some (.slice (some ⟨h,no,none⟩) 2 cc):=by have:=hJ 4 j.cols rfl;rw[ak.out.2.1] at this;exact this
   have j5:wc.cell? ⟨w.heap.size,5,none⟩=some (.string ⟨#[109,97,120]⟩):=by have:=hJ 5 (.string j.op) rfl;rw[ak.out.2.2] at this;exact this
   have au:=hJ.lt;have z4:=cK U aD s0;have z5:=cK U aD s1;have KX:Hid (∀V,Below wc.heap.size wc V->V.cell? ⟨I,0,none⟩=some (.slice (some ⟨J,K,none⟩) cs.length E)/\V.cell? ⟨w.heap.size,4,none⟩=some (.slice (some ⟨h,no,none⟩) 2 cc)/\V.cell? ⟨w.heap.size,5,none⟩=some (.string ⟨#[109,97,120]⟩)/\V.cell? ⟨h,no,none⟩=some (.string x)/\V.cell? ⟨h,no+1,none⟩=some (.string y)):=Hk (fun V hV=>⟨cK hV al a2,cK hV au j4,cK hV au j5,cK hV (by omega) z4,cK hV (by omega) z5⟩);have HB:=Hk (Ai U (Ai hv hH));obtain⟨xa,xc,rfl⟩:=own_slice hv;have KY:Hid (∀V V',Below wc.heap.size wc V->Below (w.heap.size+1) V V'->Kept (.slice xa rs.length xc) V V'->V'.cell? ⟨I,0,none⟩=some (.slice (some ⟨J,K,none⟩) cs.length E)/\V'.cell? ⟨w.heap.size,4,none⟩=some (.slice (some ⟨h,no,none⟩) 2 cc)/\V'.cell? ⟨w.heap.size,5,none⟩=some (.string ⟨#[109,97,120]⟩)/\V'.cell? ⟨h,no,none⟩=some (.string x)/\V'.cell? ⟨h,no+1,none⟩=some (.string y)):=Hk (fun V V' hV hV' hk=>by
    obtain⟨y0,y1,y2,y3,y4⟩:=KX.out V hV;have hs:=hV.size;exact⟨(hk ⟨I,0,none⟩ (Nat.lt_of_lt_of_le al hs) ae).trans y0,cK hV' (by omega) y1,cK hV' (by omega) y2,cK hV' (by omega) y3,cK hV' (by omega) y4⟩)
   clear U hv hH hJ aA N t0 t1 s0 s1 ae;have aj:=Hk (Ai (show Below wc.heap.size wc wc.drew from(Below.refl _ _).drew) HB.out.1.drew);go_wp2_with fail
   go_region_held3 (fun V=>V.cell? ⟨I,0,none⟩=some (.slice (some ⟨J,K,none⟩) cs.length E)/\V.cell? ⟨w.heap.size,4,none⟩=some (.slice (some ⟨h,no,none⟩) 2 cc)/\V.cell? ⟨w.heap.size,5,none⟩=some (.string ⟨#[109,97,120]⟩)/\V.cell? ⟨h,no,none⟩=some (.string x)/\V.cell? ⟨h,no+1,none⟩=some (.string y))
    (first|(go_keep;done)|exact KY.out _ _ O.out aF.out a5.out|exact KX.out _ O.out|exact KX.out _ aH.out)
    (first|(go_at_call 148;refine(aU.out _ us _ (owns_below HB.out.2.1 O.out) (HB.out.2.2.below O.out) (by have:=O.out.size;omega)).mono ?_;rintro e w3 ⟨aE,ay,rfl⟩;have aF:=Hk aE;have a5:=Hk ay;clear aE ay)|(go_at_call 133;refine(aB.out _ _ _ _ aG.out (by first|exact Or.inl ⟨rfl,rfl,rfl⟩|exact Or.inr ⟨rfl,rfl,rfl⟩)).mono ?_;rintro e w2 ⟨rfl,aC⟩;have O:=Hk (bel_then aH.out aC);have aX:=Hk (bel_then aG.out aC))|(go_at_call 133;refine(aB.out _ _ _ _ aj.out.2 (by first|exact Or.inl ⟨rfl,rfl,rfl⟩|exact Or.inr ⟨rfl,rfl,rfl⟩)).mono ?_;rintro e w1 ⟨rfl,D⟩;have aH:=Hk (bel_then aj.out.1 D);have aG:=Hk (bel_then aj.out.2 D)))
   go_wp2
   go_ret3
   exact⟨rfl,aX.out.trans (aF.out.mono (Nat.le_succ _))⟩
def grpOf (t:Tb) (x y:ByteArray):List Gr:=Qev (pOf t.1 x) (pOf t.1 y) (Qa9 [pOf t.1 x] t.2)
def grpT (t:Tb) (x y:ByteArray):Tb:=(Qbd [pOf t.1 x,pOf t.1 y] t.1,QaA (grpOf t x y))
open Classical in
noncomputable def grpNo (t:Tb) (x y:ByteArray):Int:=if Qae t.1 t.2=false then 1 else if QaM t.1 x y≠0 then QaM t.1 x y else if∀g∈grpOf t x y,Qaz g.2 then 0 else 2
theorem grpNo_0 {t:Tb} {x y:ByteArray} (h:grpNo t x y=0):Qae t.1 t.2=true/\QaM t.1 x y=0/\∀g∈grpOf t x y,Qaz g.2:=by
 unfold grpNo at h;split at h
 ·cases h
 ·rename_i E
  split at h
  ·rename_i D;exact absurd h D
  ·rename_i D
   split at h
   ·rename_i F
    exact⟨by simpa using E,by simpa using D,F⟩
   ·cases h
theorem grp_wrong {t:Tb} {x y:ByteArray} {j:Jb} {W:World} {B g D:Nat} {us:List Value} (H:j.code=8) (N:j.op=⟨#[109,97,120]⟩) (hr:Qae t.1 t.2=true) (hs:Qcm W j.cols [x,y]) (ho:W.ownsRow B 51 1 (.slice (some ⟨g,0,none⟩) 1 D) 1 us) (hh:QaE W us [t.1]):∀h,Below W.heap.size W h->Calls Tryz.prog 96 #[.agg j.cells,.slice (some ⟨g,0,none⟩) 1 D] h fun e w'=>e=.returned (QbN (QaM t.1 x y))/\Below h.heap.size h w':=by
 intro h E;obtain⟨U,ah,ai,ag⟩:=Qan hr;obtain⟨b,o,c,K,J,I,M⟩:=Qcs ho hh U;refine QfN g 0 1 D b o t.1.length c j _ h H (by decide) (Nat.lt_of_lt_of_le J E.size) (cK E J K) (fun W2 hW2=>?_);have F:=bel_then E hW2;obtain⟨Z,no,V,e,O,s0,s1⟩:=(strs_two hs).below F;exact group_any b o t.1.length c Z no V t.1 x y j W2 e N O s0 s1 rfl (by omega) (Nat.lt_of_lt_of_le I F.size) (M.below F I)
theorem grp_cols {t:Tb} {x y:ByteArray} {j:Jb} {oa:Option Addr} {J:Nat} {w:World} (h:j.code=8) (M:j.op=⟨#[109,97,120]⟩) (H:j.outs=.slice oa 1 J) (hs:Qcm w j.cols [x,y]) (V:Qae t.1 t.2=true) (he:QaM t.1 x y=0):∀W B g D us,Below w.heap.size w W->W.ownsRow B 51 1 (.slice (some ⟨g,0,none⟩) [t].length D) [t].length us->QaE W us ([t].map (·.1))->Calls Tryz.prog 59 #[.agg j.cells,.slice (some ⟨g,0,none⟩) [t].length D] W fun e w'=>∃v us,e=.returned (.tuple #[v,.nilIface])/\w'.ownsRow W.heap.size 51 1 v 1 us/\Qbk w' W.heap.size us (grpT t x y).1/\Below W.heap.size W w':=by
 intro W B g D us N O U;have Z:Qa3 j.code=(((1:Nat):Int),((1:Nat):Int)):=by rw[h];rfl
 obtain⟨ab,ae,af,ad⟩:=Qan V;obtain⟨b,o,c,I,F,E,K⟩:=Qcs O U ab;refine cols_ok _ oa D J j 1 1 (grpT t x y).1 W H Z (by decide) (by decide) (fun W' hW'=>?_) (fun W' hW'=>QcT g 0 1 D b o t.1.length c t.1 [x,y] j W' h (by decide) (Nat.lt_of_lt_of_le F hW'.size) (cK hW' F I) ((hs.below N).below hW') (grp_list he) rfl (by omega) (Nat.lt_of_lt_of_le E hW'.size) (K.below hW' E));have:=grp_wrong h M V (hs.below N) O U W' hW';rw[he] at this;exact this
theorem do_grp_bad (tb h tcap:Nat) (t:Tb) (x y:ByteArray) (j:Jb) (oa:Option Addr) (V:Nat) (w:World) (D:j.code=8) (I:j.op=⟨#[109,97,120]⟩) (J:j.outs=.slice oa 1 V) (N:Qcm w j.cols [x,y]) (K:QaZ w tb h [t]) (E:tb<w.heap.size) (O:grpNo t x y≠0):
 Calls Tryz.prog 61 #[.agg j.cells,.slice (some ⟨tb,h,none⟩) 1 tcap] w fun e w'=>e=.returned (.tuple #[.slice none 0 0,QbN (grpNo t x y)])/\Below w.heap.size w w':=by
 have ac:Qa3 j.code=(((1:Nat):Int),((1:Nat):Int)):=by rw[D];rfl
 cases hr:Qae t.1 t.2
 ·have:grpNo t x y=1:=by unfold grpNo;rw[if_pos hr]
  rw[this];exact QhI tb h tcap [t] j w K E (by simp) ⟨t,by simp,hr⟩
 ·have H:∀u∈[t],Qae u.1 u.2=true:=by intro u hu;simp at hu;rw[hu];exact hr
  by_cases he:QaM t.1 x y=0
  ·by_cases hS:∀g∈grpOf t x y,Qaz g.2
   ·exfalso;apply O;unfold grpNo;rw[if_neg (by simp[hr]),if_neg (by simpa using he),if_pos hS]
   ·have:grpNo t x y=2:=by unfold grpNo;rw[if_neg (by simp[hr]),if_neg (by simpa using he),if_neg hS]
    rw[this];obtain⟨ad,au,av,U⟩:=Qan hr;obtain⟨vc,vr,c0,c1,hc,M⟩:=K 0 (by simp);obtain⟨hp,hq,-,-⟩:=QcU he;refine Qi4 tb h tcap [t] j w K E (by simp) (by simp) H (grpT t x y).1 1 2 (by decide) (grp_cols D I J N hr he) (fun W F=>?_);obtain⟨nb,no,cc,e,aa,s0,s1⟩:=(strs_two N).below F;exact rowsOf_group_bad tb h 1 tcap nb no cc _ _ vc vr t.1 t.2 x y j W D I e aa s0 s1 hp hq (by decide) (Nat.lt_of_lt_of_le E F.size) ((F.cell (p:=⟨tb,h,none⟩) E).trans (by simpa using c0)) ((F.cell (p:=⟨tb,h+1,none⟩) E).trans (by simpa using c1)) (hc.below F) (M.below F) ad (by omega) U (by omega) (Qe5 hr he) (Qdt M) hS
  ·have hn:grpNo t x y=QaM t.1 x y:=by unfold grpNo;rw[if_neg (by simp[hr]),if_pos he]
   rw[hn];refine QhJ tb h tcap [t] j w K E (by simp) (by simp) H _ he ?_;intro W B g Z us F ho hh;exact Qdq _ oa Z V j 1 1 _ W J ac (by decide) he (grp_wrong D I hr (N.below F) ho hh)
theorem grp_len (t:Tb) (x y:ByteArray):(QaA (grpOf t x y)).length<=t.2.length:=by
 have h:=QfK (pOf t.1 x) (pOf t.1 y) (Qa9 [pOf t.1 x] t.2);rw[QbJ] at h;unfold QaA;rw[List.length_map];exact h
theorem do_grp_ok (tb h tcap:Nat) (t:Tb) (x y:ByteArray) (j:Jb) (oa:Option Addr) (oc:Nat) (w:World) (D:j.code=8) (H:j.op=⟨#[109,97,120]⟩) (J:j.outs=.slice oa 1 oc) (V:Qcm w j.cols [x,y]) (N:QaZ w tb h [t]) (E:tb<w.heap.size) (K:grpNo t x y=0):
 Calls Tryz.prog 61 #[.agg j.cells,.slice (some ⟨tb,h,none⟩) 1 tcap] w fun e w'=>∃g c,e=.returned (.tuple #[.slice (some ⟨g,0,none⟩) 1 c,.nilIface])/\w.heap.size<=g/\g<w'.heap.size/\QbR w' w.heap.size g [grpT t x y]/\Below w.heap.size w w':=by
 obtain⟨F,he,hS⟩:=grpNo_0 K;obtain⟨Z,av,aw,M⟩:=Qan F;obtain⟨vc,vr,c0,c1,hc,I⟩:=N 0 (by simp);obtain⟨hp,hq,-,-⟩:=QcU he;refine Qd0 tb h tcap [t] j w N E (by simp) (by simp) (by intro u U;simp at U;rw[U];exact F) (grpT t x y).1 (grpT t x y).2 [] (by have:=grp_len t x y;show(QaA (grpOf t x y)).length<=60;omega) (QgC (Qbp hc)) (grp_cols D H J V F he) (fun W hW=>?_);obtain⟨nb,no,cc,e,O,s0,s1⟩:=(strs_two V).below hW;refine(rowsOf_group_ok tb h 1 tcap nb no cc _ _ vc vr t.1 t.2 x y j W D H e O s0 s1 hp hq (by decide) (Nat.lt_of_lt_of_le E hW.size) ((hW.cell (p:=⟨tb,h,none⟩) E).trans (by simpa using c0)) ((hW.cell (p:=⟨tb,h+1,none⟩) E).trans (by simpa using c1)) (hc.below hW) (I.below hW) Z (by omega) M (by omega) (Qe5 F he) (Qdt I) hS).mono ?_;rintro e w' ⟨v1,aa,h1,h2,h3,hb⟩;exact⟨v1,.slice none 0 0,aa,[],h1,h2,h3,World.ownsRow_nil _ _ _ _,Qab.nil _ _,hb⟩
end Go.Proofs.YtjlgejennghhlaaGreatDoor.Mx
namespace Go.Proofs.YtjlgejennghhlaaGreatDoor
open Go.RowKit
theorem Qpl {r:List Vl} {cs:List Cl} (h:QaO r cs=true) (i:Nat) (D:i<r.length) (y:i<cs.length):r[i].1=cs[i].2/\rvB r[i]=true:=by
 induction r generalizing cs i with
 |nil=>simp at D
 |cons a r ih=>
  cases cs with
  |nil=>simp at y
  |cons c cs=>
   simp only[QaO,Bool.and_eq_true,beq_iff_eq] at h
   cases i with
   |zero=>exact⟨by simpa using h.1,by simpa using h.2.1⟩
   |succ i=>
    simp only[List.getElem_cons_succ];exact ih h.2.2 i (by simpa using D) (by simpa using y)
theorem Qpm {x:Vl} (h:rvB x=true):Qaz x.2.1:=by
 have:=Qa4 h;exact⟨this.2.1,this.2.2⟩
theorem Qmv {cs:List Cl} {rs:List (List Vl)} (h:Qae cs rs=true) {x:Ag} (y:Qb1 cs x=1) (r:List Vl) (D:r∈rs):Qaz (Qb8 cs r x).2.1:=by
 obtain⟨O,K,I⟩:=QaI h;obtain⟨M,N,U,F⟩:=Qan h;have J:=F r D;unfold Qb1 at y;unfold Qb8;split at y
 ·rename_i he
  rw[if_pos he];split at y
  ·rename_i H;exact Qpm H
  ·cases y
 ·rename_i he
  rw[if_neg he]
  cases g:Qaq cs x.1.data.toList with
  |none=>rw[g] at y;cases y
  |some i=>
   have E:=Qap g;simp only;rw[List.getElem?_eq_getElem (show i<r.length by omega)];exact Qpm (Qpl (I r D) i (by omega) E).2
theorem arg_ok {cs:List Cl} {x:Ag} (h:Qb1 cs x=1):QdW cs x:=by
 unfold Qb1 at h;unfold QdW;split at h
 ·rename_i he;exact Or.inl he
 ·cases g:Qaq cs x.1.data.toList with
  |none=>rw[g] at h;cases h
  |some i=>exact Or.inr ⟨i,rfl⟩
theorem Qe6 {cs:List Cl} {j:Jb} {nm:List UInt8} (h:QbZ cs j nm=0):∃i,∃hi:Qaq cs nm=some i,(cs[i]'(Qap hi)).2=1/\Qb1 cs j.left=1/\Qb1 cs j.right=1:=by
 unfold QbZ at h;obtain⟨o,g⟩:∃o,Qaq cs nm=o:=⟨_,rfl⟩
 cases o with
 |none=>rw[g] at h;cases h
 |some i=>
  rw[g] at h;have y:=Qap g;simp only[List.getElem?_eq_getElem y,Option.getD_some] at h;refine⟨i,g,?_⟩;split at h
  ·rename_i e;exact e
  ·cases h
def Qec (t:Tb) (j:Jb) (nm:List UInt8):Int:=if Qae t.1 t.2=false then 1 else if QbZ t.1 j nm≠0 then QbZ t.1 j nm else if(∀r∈t.2,Qaz (Qi7 t.1 j r)) then 0 else 2
theorem QjK {t:Tb} {j:Jb} {w:World} (oa:Option Addr) (Z:Nat) (nm:ByteArray) (D I V:Nat) (y:j.code=2) (O:j.outs=.slice oa 1 Z) (J:j.cols=.slice (some ⟨D,I,none⟩) 1 V) (af:w.cell? ⟨D,I,none⟩=some (.string nm)) (K:D<w.heap.size) (aa:inS Qbs j.op.data.toList=true) (hx:j.left.2.2.2.size<=maxLen) (U:j.right.2.2.2.size<=maxLen) (hr:Qae t.1 t.2=true) (he:QbZ t.1 j nm.data.toList=0):
 ∀W B g h us,Below w.heap.size w W->W.ownsRow B 51 1 (.slice (some ⟨g,0,none⟩) [t].length h) [t].length us->QaE W us ([t].map (·.1))->Calls Tryz.prog 59 #[.agg j.cells,.slice (some ⟨g,0,none⟩) [t].length h] W fun e w'=>∃v us,e=.returned (.tuple #[v,.nilIface])/\w'.ownsRow W.heap.size 51 1 v 1 us/\Qbk w' W.heap.size us t.1/\Below W.heap.size W w':=by
 obtain⟨ad,al,am,ak⟩:=Qan hr;have ac:Qa3 j.code=(((1:Nat):Int),((1:Nat):Int)):=by rw[y];rfl
 intro W B g h us hW ho hh;obtain⟨b,o,c,M,F,E,N⟩:=Qcs ho hh ad;refine cols_ok _ oa h Z j 1 1 t.1 W O ac (by decide) (by decide) (fun W' hW'=>?_) (fun W' hW'=>QbF g 0 1 h b o t.1.length c t.1 j W' (Or.inr (Or.inr (Or.inl y))) (by decide) (Nat.lt_of_lt_of_le F hW'.size) (cK hW' F M) rfl (by omega) (Nat.lt_of_lt_of_le E hW'.size) (N.below hW' E));have H:D<W.heap.size:=Nat.lt_of_lt_of_le K hW.size;have:=QfP g 0 1 h b o t.1.length c D I V t.1 nm j W' y (by decide) (Nat.lt_of_lt_of_le F hW'.size) (cK hW' F M) J (Nat.lt_of_lt_of_le H hW'.size) ((hW'.cell (p:=⟨D,I,none⟩) H).trans (cK hW K af)) aa rfl (by omega) (Nat.lt_of_lt_of_le E hW'.size) (N.below hW' E) hx U;rw[he] at this;exact this
theorem QjL {tb h tcap:Nat} {t:Tb} {j:Jb} {w:World} (nm:ByteArray) (D F U at_:Nat) (H:j.code=2) (I:j.cols=.slice (some ⟨D,F,none⟩) 1 U) (ab:w.cell? ⟨D,F,none⟩=some (.string nm)) (J:D<w.heap.size) (V:Qaq t.1 nm.data.toList=some at_) (ht:QaZ w tb h [t]) (E:tb<w.heap.size) (N:Qae t.1 t.2=true) (he:QbZ t.1 j nm.data.toList=0):
 ∀W,Below w.heap.size w W->Calls Tryz.prog 102 #[.agg j.cells,.slice (some ⟨tb,h,none⟩) [t].length tcap] W fun e w'=>(((∀r∈t.2,Qaz (Qi7 t.1 j r))/\∃v1 us1,e=.returned (.tuple #[v1,.slice none 0 0,.nilIface])/\w'.ownsRow W.heap.size 84 1 v1 t.2.length us1/\Qab w' W.heap.size us1 (t.2.map (Qmq t.1 j at_)))\/((∃r∈t.2,¬Qaz (Qi7 t.1 j r))/\e=.returned (.tuple #[.slice none 0 0,.slice none 0 0,QbN 2])))/\Below W.heap.size W w':=by
 obtain⟨aa,ag,ai,O⟩:=Qan N;obtain⟨i,hi,ah,M,K⟩:=Qe6 he;intro W y;obtain⟨vc,vr,c0,c1,hc,Z⟩:=ht 0 (by simp);exact QkS tb h 1 tcap vc vr t.1 t.2 j W nm D F U at_ H I (cK y J ab) (Nat.lt_of_lt_of_le J y.size) V (fun r hr'=>⟨Qmv N M r hr',Qmv N K r hr'⟩) (by decide) (Nat.lt_of_lt_of_le E y.size) ((y.cell (p:=⟨tb,h,none⟩) E).trans (by simpa using c0)) ((y.cell (p:=⟨tb,h+1,none⟩) E).trans (by simpa using c1)) (hc.below y) (Z.below y) aa (by omega) O (by omega) (arg_ok M) (arg_ok K)
theorem QkT (tb F tcap:Nat) (t:Tb) (j:Jb) (oa:Option Addr) (oc:Nat) (nm:ByteArray) (y H U:Nat) (w:World) (h:j.code=2) (N:j.outs=.slice oa 1 oc) (D:j.cols=.slice (some ⟨y,H,none⟩) 1 U) (O:w.cell? ⟨y,H,none⟩=some (.string nm)) (I:y<w.heap.size) (ad:inS Qbs j.op.data.toList=true) (hx:j.left.2.2.2.size<=maxLen) (E:j.right.2.2.2.size<=maxLen) (V:QaZ w tb F [t]) (K:tb<w.heap.size) (ab:Qec t j nm.data.toList≠0):
 Calls Tryz.prog 61 #[.agg j.cells,.slice (some ⟨tb,F,none⟩) 1 tcap] w fun e w'=>e=.returned (.tuple #[.slice none 0 0,QbN (Qec t j nm.data.toList)])/\Below w.heap.size w w':=by
 have ak:Qa3 j.code=(((1:Nat):Int),((1:Nat):Int)):=by rw[h];rfl
 cases hr:Qae t.1 t.2
 ·have:Qec t j nm.data.toList=1:=by unfold Qec;rw[if_pos hr]
  rw[this];exact QhI tb F tcap [t] j w V K (by simp) ⟨t,by simp,hr⟩
 ·obtain⟨al,az,aB,aw⟩:=Qan hr;have J:∀x∈[t],Qae x.1 x.2=true:=by intro x E;simp at E;rw[E];exact hr
  by_cases he:QbZ t.1 j nm.data.toList=0
  ·have hn:Qec t j nm.data.toList=if(∀r∈t.2,Qaz (Qi7 t.1 j r)) then 0 else 2:=by unfold Qec;rw[if_neg (by simp[hr]),if_neg (by simp[he])]
   by_cases hall:∀r∈t.2,Qaz (Qi7 t.1 j r)
   ·rw[hn,if_pos hall] at ab;exact absurd rfl ab
   ·rw[hn,if_neg hall];obtain⟨i,hi,aA,ay,ax⟩:=Qe6 he;refine Qi4 tb F tcap [t] j w V K (by simp) (by simp) J t.1 1 2 (by decide) (QjK oa oc nm y H U h N D O I ad hx E hr he) (fun W Z=>?_);refine(QjL (tcap:=tcap) nm y H U i h D O I hi V K hr he W Z).mono ?_;rintro e w' ⟨⟨h1,-⟩|⟨-,h2⟩,hb⟩
    ·exact absurd h1 hall
    ·exact⟨h2,hb⟩
  ·have hn:Qec t j nm.data.toList=QbZ t.1 j nm.data.toList:=by unfold Qec;rw[if_neg (by simp[hr]),if_pos he]
   rw[hn];refine QhJ tb F tcap [t] j w V K (by simp) (by simp) J _ he ?_;intro W B g ae us Z ho hh;obtain⟨b,o,c,ai,af,ac,aj⟩:=Qcs ho hh al;have M:y<W.heap.size:=Nat.lt_of_lt_of_le I Z.size;exact Qdq _ oa ae oc j 1 1 _ W N ak (by decide) he (fun W' hW'=>QfP g 0 1 ae b o t.1.length c y H U t.1 nm j W' h (by decide) (Nat.lt_of_lt_of_le af hW'.size) (cK hW' af ai) D (Nat.lt_of_lt_of_le M hW'.size) ((hW'.cell (p:=⟨y,H,none⟩) M).trans (cK Z I O)) ad rfl (by omega) (Nat.lt_of_lt_of_le ac hW'.size) (aj.below hW' ac) hx E)
theorem Qmw {t:Tb} {j:Jb} {nm:List UInt8} (h:Qec t j nm=0):Qae t.1 t.2=true/\QbZ t.1 j nm=0/\∀r∈t.2,Qaz (Qi7 t.1 j r):=by
 unfold Qec at h;split at h
 ·cases h
 ·rename_i D
  split at h
  ·rename_i y;exact absurd h y
  ·rename_i y
   split at h
   ·rename_i E;exact⟨by simpa using D,by simpa using y,E⟩
   ·cases h
theorem Qmx (tb F tcap:Nat) (t:Tb) (j:Jb) (oa:Option Addr) (oc:Nat) (nm:ByteArray) (E I N at_:Nat) (w:World) (y:j.code=2) (V:j.outs=.slice oa 1 oc) (D:j.cols=.slice (some ⟨E,I,none⟩) 1 N) (K:w.cell? ⟨E,I,none⟩=some (.string nm)) (J:E<w.heap.size) (ad:inS Qbs j.op.data.toList=true) (hx:j.left.2.2.2.size<=maxLen) (h:j.right.2.2.2.size<=maxLen) (O:QaZ w tb F [t]) (M:tb<w.heap.size) (ac:Qaq t.1 nm.data.toList=some at_) (Z:Qec t j nm.data.toList=0):
 Calls Tryz.prog 61 #[.agg j.cells,.slice (some ⟨tb,F,none⟩) 1 tcap] w fun e w'=>∃g c,e=.returned (.tuple #[.slice (some ⟨g,0,none⟩) 1 c,.nilIface])/\w.heap.size<=g/\g<w'.heap.size/\QbR w' w.heap.size g [(t.1,t.2.map (Qmq t.1 j at_))]/\Below w.heap.size w w':=by
 obtain⟨H,he,U⟩:=Qmw Z;obtain⟨av,ar,ae,aq⟩:=Qan H;obtain⟨vc,vr,c0,c1,hc,au⟩:=O 0 (by simp);refine Qd0 tb F tcap [t] j w O M (by simp) (by simp) (by intro x h;simp at h;rw[h];exact H) t.1 (t.2.map (Qmq t.1 j at_)) [] (by simpa using ae) (Qbp hc) (QjK oa oc nm E I N y V D K J ad hx h H he) (fun W hW=>?_);refine(QjL (tcap:=tcap) nm E I N at_ y D K J ac O M H he W hW).mono ?_;rintro e w' ⟨⟨-,v1,ag,h1,h2,h3⟩|⟨⟨r,aa,hn⟩,-⟩,hb⟩
 ·exact⟨v1,.slice none 0 0,ag,[],h1,by simpa using h2,h3,World.ownsRow_nil _ _ _ _,Qab.nil _ _,hb⟩
 ·exact absurd (U r aa) hn
end Go.Proofs.YtjlgejennghhlaaGreatDoor
namespace Go.Proofs.YtjlgejennghhlaaGreatDoor.Fw
open Go.RowKit
theorem builder_new (w:World):Lib.IsBuilder 285 5 w.heap.size w.heap.size [] (w.alloc (.cells #[.pointer none,.slice none 0 0] 285)):=
 Or.inl ⟨Nat.le_refl _,.slice none 0 0,heap_alloc_new _ _,World.ownsRow_nil _ _ _ _,by simp[Value.ownBlock]⟩
def PrS (w1 wr:World) (l:By):Prop:=Lib.IsBuilderF 285 5 w1.heap.size w1.heap.size (Lib.byteCells l) wr/\Below w1.heap.size w1 wr
theorem PrS.new (h:World):PrS h (h.alloc (.cells #[.pointer none,.slice none 0 0] 285)) []:=⟨Lib.IsBuilderF.of (builder_new h),Qaa _ _⟩
theorem blk_cell {K i:Nat} {cs:Array Value} {T:TypeId} {w:World} {v:Value} (y:w.heap[K]? =some (.cells cs T (0,0))) (h:cs[i]? =some v):w.cell? ⟨K,i,none⟩=some v:=by
 simp[World.cell?,y,h]
theorem job_info:(Tryz.prog.info? 50).map (·.size)=some 15:=by kernel_rfl
abbrev zeroJ:Array Value:=#[.int .i64 0,.int .i64 0,.slice none 0 0,.slice none 0 0,.slice none 0 0,.string ⟨#[]⟩,.string ⟨#[]⟩,.int .i64 0,.int .i64 0,.string ⟨#[]⟩,.string ⟨#[]⟩,.int .i64 0,.int .i64 0,.string ⟨#[]⟩,.int .i64 0]
theorem job_there (wr:World):(wr.alloc (.cells zeroJ 50)).there wr.heap.size 0 15:=(Box.new wr zeroJ.toList 50 _ rfl).there
theorem below_setCells {B k:Nat} (h:B<=k):∀(us:List Value) (o:Nat) (w:World),Below B w (w.setCells k o us)
 |[],o,w=>Below.refl _ _
 |u::us,o,w=>((Below.refl B w).setCell (p:=⟨k,o,none⟩) h u).trans (below_setCells h us (o+1) _)
theorem size_sets (k:Nat):∀(us:List Value) (o:Nat) (w:World),(w.setCells k o us).heap.size=w.heap.size
 |[],o,w=>rfl
 |u::us,o,w=>by rw[World.setCells,size_sets k us (o+1) _,Qac]
theorem QgJ {k:Nat} {T:TypeId}:∀(us:List Value) (o:Nat) (w:World),(∃vs,w.heap[k]? =some (.cells vs T (0,0)))->∃vs,(w.setCells k o us).heap[k]? =some (.cells vs T (0,0))
 |[],o,w,h=>h
 |u::us,o,w,⟨vs,h⟩=>QgJ us (o+1) _ ⟨vs.setIfInBounds o u,by simp[World.setCell,Array.getElem?_modify,h]⟩
theorem job_stored (wr:World) (y:List Value) (h:y.length=15):((wr.alloc (.cells zeroJ 50)).setCells wr.heap.size 0 y).heap[wr.heap.size]? =some (.cells y.toArray 50 (0,0)):=by
 obtain⟨F,D⟩:=QgJ (k:=wr.heap.size) (T:=50) y 0 (wr.alloc (.cells zeroJ 50)) ⟨zeroJ,heap_alloc_new _ _⟩;obtain⟨T,E⟩:=(Box.new wr zeroJ.toList 50 _ rfl).full (us:=y) (by rw[h];rfl);have e:=D.symm.trans E;simp only[Option.some.injEq,Obj.cells.injEq] at e;rw[D,e.1]
end Go.Proofs.YtjlgejennghhlaaGreatDoor.Fw
