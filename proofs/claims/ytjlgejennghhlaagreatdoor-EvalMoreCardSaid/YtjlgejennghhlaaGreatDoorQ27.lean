import Derived.Deep.RegionHeld3
import Derived.Deep.DeepCutAuto
import Derived.Test.YtjlgejennghhlaaGreatDoorQ01
import Derived.Test.YtjlgejennghhlaaGreatDoorQ11
import Derived.Test.YtjlgejennghhlaaGreatDoorQ08
set_option linter.unusedSimpArgs false
set_option linter.unusedVariables false
set_option linter.unusedSectionVars false
set_option maxRecDepth 1000000
set_option maxHeartbeats 16000000
namespace Go.Proofs.YtjlgejennghhlaaGreatDoor
open Go.RowKit
def QiU (cs:List Cl) (j:Jb) (r:List Vl):Int:=QlX j.op.data.toList (Qb6 cs r j.left).2.1 (Qb6 cs r j.right).2.1
def Qmc (cs:List Cl) (j:Jb) (at_:Nat) (r:List Vl):List Vl:=r.set at_ (1,QiU cs j r,⟨#[]⟩)
def Qhg (cs:List Cl) (j:Jb) (at_:Nat) (rs:List (List Vl)) (k:Nat):List (List Vl):=(rs.take k).map (Qmc cs j at_)++rs.drop k
theorem Qqn (cs:List Cl) (j:Jb) (at_:Nat) (rs:List (List Vl)):Qhg cs j at_ rs 0=rs:=by simp[Qhg]
theorem Qn4 (cs:List Cl) (j:Jb) (at_:Nat) (rs:List (List Vl)):Qhg cs j at_ rs rs.length=rs.map (Qmc cs j at_):=by simp[Qhg]
theorem Qd5 (cs:List Cl) (j:Jb) (at_:Nat) (rs:List (List Vl)) (k:Nat):(Qhg cs j at_ rs k).length=rs.length:=by
 rw[Qhg,List.length_append,List.length_map,List.length_take,List.length_drop];omega
theorem Qmd (cs:List Cl) (j:Jb) (at_:Nat) (rs:List (List Vl)) (k:Nat) (y:k<rs.length):(Qhg cs j at_ rs k)[k]'(by rw[Qd5];exact y)=rs[k]:=by
 have h:(Qhg cs j at_ rs k)[k]? =some rs[k]:=by
  rw[Qhg,List.getElem?_append_right (by rw[List.length_map,List.length_take];omega),List.length_map,List.length_take,show k-min k rs.length=0 by omega,List.getElem?_drop,Nat.add_zero,List.getElem?_eq_getElem y]
 rw[List.getElem?_eq_getElem (by rw[Qd5];exact y)] at h;exact Option.some.inj h
theorem Qme (cs:List Cl) (j:Jb) (at_:Nat) (rs:List (List Vl)) (k:Nat) (h:k<rs.length):(Qhg cs j at_ rs k).set k (Qmc cs j at_ rs[k])=Qhg cs j at_ rs (k+1):=by
 have y:((rs.take k).map (Qmc cs j at_)).length=k:=by rw[List.length_map,List.length_take];omega
 rw[Qhg,List.set_append_right k _ (by omega),y,Nat.sub_self,List.drop_eq_getElem_cons h,List.set_cons_zero,Qhg,List.take_succ_eq_append_getElem h,List.map_append];simp
theorem Qp8 {B:Nat} {w w' y:World} (D:B<=w.heap.size) (h:Below B w w') (F:Below w'.heap.size w' y):Below B w y:=h.trans (F.mono (Nat.le_trans D h.size))
theorem Qre {W y:World} {N:Nat} {O v7 v8 U I K J H:Value} (D:Below W.heap.size W y) (h:W.cell? ⟨N,6,none⟩=some O/\W.cell? ⟨N,7,none⟩=some v7/\W.cell? ⟨N,8,none⟩=some v8/\W.cell? ⟨N,9,none⟩=some U/\W.cell? ⟨N,10,none⟩=some I/\W.cell? ⟨N,11,none⟩=some K/\W.cell? ⟨N,12,none⟩=some J/\W.cell? ⟨N,13,none⟩=some H):
 y.cell? ⟨N,6,none⟩=some O/\y.cell? ⟨N,7,none⟩=some v7/\y.cell? ⟨N,8,none⟩=some v8/\y.cell? ⟨N,9,none⟩=some U/\y.cell? ⟨N,10,none⟩=some I/\y.cell? ⟨N,11,none⟩=some K/\y.cell? ⟨N,12,none⟩=some J/\y.cell? ⟨N,13,none⟩=some H:=by
 obtain⟨h6,h7,h8,h9,V,ab,Z,M⟩:=h;have F:N<W.heap.size:=World.block_lt_of_cell? W _ h6;exact⟨cK D F h6,cK D F h7,cK D F h8,cK D F h9,cK D F V,cK D F ab,cK D F Z,cK D F M⟩
def Z3 (w:World) (b:Nat):Prop:=w.cell? ⟨b,0,none⟩=some (.int .i64 0)/\w.cell? ⟨b,0+1,none⟩=some (.int .i64 0)/\w.cell? ⟨b,0+2,none⟩=some (.string ⟨#[]⟩)/\w.frozen? ⟨b,0,none⟩=false/\w.frozen? ⟨b,0+1,none⟩=false/\w.frozen? ⟨b,0+2,none⟩=false/\b<w.heap.size
theorem Z3.below {W F:World} {b:Nat} (h:Z3 W b) (D:Below W.heap.size W F):Z3 F b:=by
 obtain⟨M,K,J,N,I,H,y⟩:=h;exact⟨cK D y M,cK D y K,cK D y J,(D.frozen (p:=⟨b,0,none⟩) y).trans N,(D.frozen (p:=⟨b,0+1,none⟩) y).trans I,(D.frozen (p:=⟨b,0+2,none⟩) y).trans H,Nat.lt_of_lt_of_le y D.size⟩
theorem Z3.alloc {W:World} {b:Nat} (h:Z3 W b) (o:Obj):Z3 (W.alloc o) b:=h.below (Qaa _ _)
theorem Z3.drew {W:World} {b:Nat} (h:Z3 W b):Z3 W.drew b:=h.below (Below.refl _ _).drew
theorem Z3.new {W:World} {b:Nat} {t:TypeId} (h:W.heap.size=b):Z3 (W.alloc (.cells #[.int .i64 0,.int .i64 0,.string ⟨#[]⟩] t)) b:=by
 subst h;exact⟨by simp,by simp,by simp,by simp,by simp,by simp,by simp⟩
theorem Z3.new1 {W:World} {o:Obj} {t:TypeId}:Z3 ((W.alloc o).alloc (.cells #[.int .i64 0,.int .i64 0,.string ⟨#[]⟩] t)) (W.heap.size+1):=Z3.new (by simp)
def VB (w:World) (b:Nat) (x:Vl):Prop:=w.cell? ⟨b,0,none⟩=some (.int .i64 x.1)/\w.cell? ⟨b,0+1,none⟩=some (.int .i64 x.2.1)/\w.cell? ⟨b,0+2,none⟩=some (.string x.2.2)/\b<w.heap.size
theorem VB.alloc {W:World} {b:Nat} {x:Vl} (h:VB W b x) (o:Obj):VB (W.alloc o) b x:=by
 obtain⟨I,H,F,y⟩:=h;have D:=Qaa W o;exact⟨cK D y I,cK D y H,cK D y F,Nat.lt_of_lt_of_le y D.size⟩
theorem VB.new {W:World} {b:Nat} {t:TypeId} {x:Vl} (h:W.heap.size=b):VB (W.alloc (.cells #[.int .i64 x.1,.int .i64 x.2.1,.string x.2.2] t)) b x:=by
 subst h;exact⟨by simp,by simp,by simp,by simp⟩
theorem VB.other {W:World} {b c:Nat} {x:Vl} {p q r:Value} (h:VB W b x) (K:c≠b):VB (((W.setCell ⟨c,0,none⟩ p).setCell ⟨c,1,none⟩ q).setCell ⟨c,2,none⟩ r) b x:=by
 obtain⟨J,I,H,F⟩:=h;have D:∀(w:World) k o y,(w.setCell ⟨c,o,none⟩ y).cell? ⟨b,k,none⟩=w.cell? ⟨b,k,none⟩:=fun w k o y=>World.cell?_setCell_other _ _ _ _ (by intro e;simp only[Addr.mk.injEq] at e;omega)
 exact⟨by rw[D,D,D];exact J,by rw[D,D,D];exact I,by rw[D,D,D];exact H,by simpa using F⟩
theorem Z3.other {W:World} {b c:Nat} {p q r:Value} (h:Z3 W b) (O:c≠b):Z3 (((W.setCell ⟨c,0,none⟩ p).setCell ⟨c,1,none⟩ q).setCell ⟨c,2,none⟩ r) b:=by
 obtain⟨M,K,J,N,H,F,I⟩:=h;have D:∀(w:World) k o y,(w.setCell ⟨c,o,none⟩ y).cell? ⟨b,k,none⟩=w.cell? ⟨b,k,none⟩:=fun w k o y=>World.cell?_setCell_other _ _ _ _ (by intro e;simp only[Addr.mk.injEq] at e;omega)
 exact⟨by rw[D,D,D];exact M,by rw[D,D,D];exact K,by rw[D,D,D];exact J,by simpa using N,by simpa using H,by simpa using F,by simpa using I⟩
theorem VB.stored {W:World} {b:Nat} {x:Vl} (h:Z3 W b):VB (((W.setCell ⟨b,0,none⟩ (.int .i64 x.1)).setCell ⟨b,1,none⟩ (.int .i64 x.2.1)).setCell ⟨b,2,none⟩ (.string x.2.2)) b x:=by
 obtain⟨H,F,D,K,J,I,y⟩:=h;refine⟨?_,?_,?_,by simpa using y⟩
 ·rw[World.cell?_setCell_other _ _ _ _ (by intro e;simp at e),World.cell?_setCell_other _ _ _ _ (by intro e;simp at e)];exact World.cell?_setCell_same _ _ _ H
 ·rw[World.cell?_setCell_other _ _ _ _ (by intro e;simp at e)];exact World.cell?_setCell_same _ _ _ ((World.cell?_setCell_other _ _ _ _ (by intro e;simp at e)).trans F)
 ·exact World.cell?_setCell_same _ _ _ ((World.cell?_setCell_other _ _ _ _ (by intro e;simp at e)).trans ((World.cell?_setCell_other _ _ _ _ (by intro e;simp at e)).trans D))
theorem Qmf {w:World} {B g c k at_:Nat} {us:List Value} {rs:List (List Vl)} {cs:List Cl} {j:Jb} (h:Qab w B us (Qhg cs j at_ rs k)) (D:us.Pairwise Apart) (y:k<rs.length) (F:us[k]? =some (.slice (some ⟨g,0,none⟩) rs[k].length c)) (H:at_<rs[k].length):
 Qab (((w.setCell ⟨g,at_*3,none⟩ (.int .i64 1)).setCell ⟨g,at_*3+1,none⟩ (.int .i64 (QiU cs j rs[k]))).setCell ⟨g,at_*3+2,none⟩ (.string ⟨#[]⟩)) B us (Qhg cs j at_ rs (k+1)):=by
 have hk':k<(Qhg cs j at_ rs k).length:=by rw[Qd5];exact y
 have e:=Qmd cs j at_ rs k y;have:=h.store D hk' (g:=g) (c:=c) (by rw[e];exact F) at_ (1,QiU cs j rs[k],⟨#[]⟩) (by rw[e];exact H) (by show(0:Nat)<=maxLen;exact Nat.zero_le _);rw[e] at this;rw[<-Qme cs j at_ rs k y];exact this
theorem QaC.elsewhere {w:World} {N b:Nat} {j:Jb} {o:Nat} {x:Value} (h:QaC w N j) (y:b≠N):QaC (w.setCell ⟨b,o,none⟩ x) N j:=fun k v hk=>(World.cell?_setCell_other _ _ _ _ (by intro e;simp only[Addr.mk.injEq] at e;omega)).trans (h k v hk)
theorem Qmg {w:World} {B k at_:Nat} {us:List Value} {rs:List (List Vl)} {cs:List Cl} {j:Jb} {u:Value} (h:Qab w B us (Qhg cs j at_ rs k)) (H:k<rs.length) (y:us[k]? =some u):w.ownsRow B 46 3 u rs[k].length (Qag rs[k])/\∀x∈rs[k],x.2.2.size<=maxLen:=by
 have D:k<us.length:=(List.getElem?_eq_some_iff.1 y).1;have F:=h.2 k D (by rw[Qd5];exact H);rw[List.getElem?_eq_getElem D] at y;injection y with y;rw[y] at F;simp only[Qmd cs j at_ rs k H] at F;exact F
theorem QhX (v vc:Value) (cs:List Cl) (rs:List (List Vl)) (us:List Value) (j:Jb) (nm:ByteArray) (cb co cc at_ B:Nat) (w:World) (hv:w.ownsRow B 84 1 v rs.length us) (hH:Qab w B us rs) (hp:us.Pairwise Apart)
 (aq:∀W,Below B w W->Qax W vc cs) (aL:j.cols=.slice (some ⟨cb,co,none⟩) 1 cc) (aQ:∀W,Below B w W->W.cell? ⟨cb,co,none⟩=some (.string nm)) (cZ:cb<w.heap.size) (aF:Qaq cs nm.data.toList=some at_)
 (h1:1<=cs.length) (h6:cs.length<=100) (hl:∀r∈rs,r.length=cs.length) (cV:rs.length<=100) (a0:QdQ cs j.left) (aX:QdQ cs j.right) (N:∀r∈rs,Qaz (Qb6 cs r j.left).2.1/\Qaz (Qb6 cs r j.right).2.1) (hB:B<=w.heap.size):
 Calls Tryz.prog 142 #[.agg j.cells,vc,v] w fun e w'=>(((∀r∈rs,Qaz (QiU cs j r))/\e=.returned (.tuple #[v,.nilIface])/\w'.ownsRow B 84 1 v rs.length us/\Qab w' B us (rs.map (Qmc cs j at_)))\/((∃r∈rs,¬Qaz (QiU cs j r))/\e=.returned (.tuple #[.slice none 0 0,QbK 2])))/\Below B w w':=by
 have cL:=Qap aF;have hP:=fun W (hW:Below B w W)=>Qlx vc cs nm W (aq W hW) h1 h6
 rw[show QaB cs nm.data.toList=(at_:Int) by rw[QaB,aF]] at hP;have HP:=Hk hP;have HC:=Hk aq;have HN:=Hk aQ;have HI:=Hk N;have HL:=Hk hl;have HO:=Hk (Ai a0 aX);have br:=Hk hp;have ao:=Qce w j 50;have s0:=HN.out w (Below.refl _ _);have bG:=aq w (Below.refl _ _);obtain⟨va,cW,rfl,-⟩:=bG;obtain⟨ra,bj,rfl⟩:=own_slice hv;have HV:=Hk (Ai hv hH);unfold Jb.cells at ao⊢;rw[aL] at ao⊢;have aN:=Hk ao;have aO:∀(q:Nat) (u:Value),us[q]? =some u->∀b:Nat,u.ownBlock=some b->b<w.heap.size:=fun q u hq b hb=>by
  obtain⟨K,rfl⟩:=List.getElem?_eq_some_iff.1 hq;exact((hH.2 q K (by rw[<-hH.1];exact K)).1.lt b hb).2
 have bq:=Hk aO;clear ao hP aF N hl a0 aX hp hv hH aq aQ aO;go_enter Tryz.func142,Tryz.ntmps142;go_wp2_with (go_at_call 133;refine(HP.out _ ((Qaa _ _).mono hB)).mono ?_;rintro e w1 ⟨rfl,H⟩);have aG:Below B w w1:=Qp8 hB ((Qaa w _).mono hB) H;have a2:=aN.out.below H (by simp);have aS:=owns_below (HV.out.1.alloc _) H;have aW:=(HV.out.2.below (Qaa _ _)).below H;have c7:w.heap.size<w1.heap.size:=by have:=H.size;simp at this;omega
 have H1:=Hk (Ai a2 (Ai aS (Ai aW aG)));clear H aG a2 aS aW aN HV HP s0;go_loopw [23] (fun i wr=>∃k:Nat,k<=rs.length/\i=.int .i64 k/\wr.ownsRow B 84 1 (.slice ra rs.length bj) rs.length us/\Qab wr B us (Qhg cs j at_ rs k)/\(∀q (h:q<rs.length),q<k->Qaz (QiU cs j rs[q]))/\QaC wr w.heap.size j/\Below B w wr) (fun i _=>rs.length-(intOf i).toNat)
 case atStart=>exact⟨0,Nat.zero_le _,rfl,H1.out.2.1,by rw[Qqn];exact H1.out.2.2.1,fun q _ h=>absurd h (by omega),H1.out.1,H1.out.2.2.2⟩
 case round=>
  obtain⟨k,hk,rfl,F,y,O,I,Z⟩:=hrel;have HR:=Hk (Ai F (Ai y (Ai O (Ai I Z))))
  by_cases K:k<rs.length
  ·obtain⟨g,gc,aR,c8,cU,aP⟩:=Qcz F (by omega);simp only[Value.slice.injEq,true_and] at aR;obtain⟨rfl,rfl⟩:=aR;have aT:k<us.length:=by rw[y.1,Qd5];exact K
   obtain⟨u,hu⟩:∃u,us[k]? =some u:=⟨us[k],List.getElem?_eq_getElem aT⟩;obtain⟨M,af⟩:=Qmg y K hu;have ae:=HL.out _ (List.getElem_mem K);obtain⟨rb,uc,rfl,V,J,U⟩:=Qcz M (by omega);have cu:=aP k _ hu;rw[Nat.zero_add] at cu;have aD:=QbB M af;have hV:=fun(x:Ag) (hx:x=j.left\/x=j.right) W (hW:Below wr.heap.size wr W)=>Qfu _ _ cs rs[k] x W ((HC.out wr Z).below hW) (aD.below hW) h6 ae (by rcases hx with rfl|rfl;exact HO.out.1;exact HO.out.2)
   have au:=HI.out _ (List.getElem_mem K);have aw:=I.lt;have ah:QiU cs j rs[k]=QlX j.op.data.toList (Qb6 cs rs[k] j.left).2.1 (Qb6 cs rs[k] j.right).2.1:=rfl;have j5:wr.cell? ⟨w.heap.size,5,none⟩=some (Value.string j.op):=I 5 _ rfl;have j6:wr.cell? ⟨w.heap.size,6,none⟩=some (Value.string j.left.1):=I 6 _ rfl;have j7:wr.cell? ⟨w.heap.size,7,none⟩=some (Value.int .i64 j.left.2.1):=I 7 _ rfl;have j8:wr.cell? ⟨w.heap.size,8,none⟩=some (Value.int .i64 j.left.2.2.1):=I 8 _ rfl;have j9:wr.cell? ⟨w.heap.size,9,none⟩=some (Value.string j.left.2.2.2):=I 9 _ rfl;have bp:wr.cell? ⟨w.heap.size,10,none⟩=some (Value.string j.right.1):=I 10 _ rfl;have bC:wr.cell? ⟨w.heap.size,11,none⟩=some (Value.int .i64 j.right.2.1):=I 11 _ rfl;have bu:wr.cell? ⟨w.heap.size,12,none⟩=some (Value.int .i64 j.right.2.2.1):=I 12 _ rfl;have bI:wr.cell? ⟨w.heap.size,13,none⟩=some (Value.string j.right.2.2.2):=I 13 _ rfl;have bm:=Hk hV;have HU:=Hk (Ai hu (Ai M (Ai af (Ai V U))));have aV:=Hk (Ai ae (Ai au ah));have hrl':(at_:Int)<(rs[k].length:Int):=by omega
   clear hV hu M af aD V U aP F y O I Z au ah aT ae;generalize ad:rs[k]=rk at*;have a3:=Hk ad;clear ad;go_wp2_with fail
   go_cut [11,12] (fun p q wx=>∃b1 b2:Nat,p=.pointer (some ⟨b1,0,none⟩)/\q=.pointer (some ⟨b2,0,none⟩)/\VB wx b1 (Qb6 cs rk j.left)/\VB wx b2 (Qb6 cs rk j.right)/\Below wr.heap.size wr wx)
   case first=>
    go_region_held3 (fun w'=>w'.cell? ⟨w.heap.size,6,none⟩=some (Value.string j.left.1)/\w'.cell? ⟨w.heap.size,7,none⟩=some (Value.int .i64 j.left.2.1)/\w'.cell? ⟨w.heap.size,8,none⟩=some (Value.int .i64 j.left.2.2.1)/\w'.cell? ⟨w.heap.size,9,none⟩=some (Value.string j.left.2.2.2)/\w'.cell? ⟨w.heap.size,10,none⟩=some (Value.string j.right.1)/\w'.cell? ⟨w.heap.size,11,none⟩=some (Value.int .i64 j.right.2.1)/\w'.cell? ⟨w.heap.size,12,none⟩=some (Value.int .i64 j.right.2.2.1)/\w'.cell? ⟨w.heap.size,13,none⟩=some (Value.string j.right.2.2.2))
     (exact Qre (W:=wr) (by repeat' (first|with_reducible exact ac|with_reducible exact ab|with_reducible exact Below.refl _ _|with_reducible refine Below.drew ?_|with_reducible refine bel_box ?_ _|with_reducible refine Below.setCell ?_ ?_ _|(show wr.heap.size<=_;simp;done)|(show wr.heap.size<=_;simp;omega))) ⟨j6,j7,j8,j9,bp,bC,bu,bI⟩)
     (first|(go_at_call 141;refine(bm.out _ (by first|exact Or.inl rfl|exact Or.inr rfl) _ (by repeat' (first|with_reducible exact ac|with_reducible exact ab|with_reducible exact Below.refl _ _|with_reducible refine Below.drew ?_|with_reducible refine bel_box ?_ _|with_reducible refine Below.setCell ?_ ?_ _|(show wr.heap.size<=_;simp;done)|(show wr.heap.size<=_;simp;omega)))).mono ?_;first|(have bA:=ab;clear bA;rintro e cY ⟨rfl,aa⟩;have ac:=bel_then (show Below wr.heap.size wr _ from(by repeat' (first|with_reducible exact ac|with_reducible exact ab|with_reducible exact Below.refl _ _|with_reducible refine Below.drew ?_|with_reducible refine bel_box ?_ _|with_reducible refine Below.setCell ?_ ?_ _|(show wr.heap.size<=_;simp;done)|(show wr.heap.size<=_;simp;omega)))) aa;have cT:=ac.size;(first|(with_reducible have aC:=Z3.below am aa)|(with_reducible have aC:=Z3.below (Z3.alloc am _) aa)|skip);(first|(with_reducible have a5:=Z3.below aZ aa)|skip);(first|(with_reducible have aE:=Z3.below (Z3.alloc (Z3.new (W:=ax) rfl) _) aa;with_reducible have aU:=Z3.below (Z3.new1 (W:=ax)) aa)|(with_reducible have aE:=Z3.below (Z3.new (W:=ax) rfl) aa)|skip);(try obtain⟨b4,bW,b3,ct,b5,bO,cg⟩:=id aC);(try obtain⟨bS,bM,cj,cx,bN,cq,cy⟩:=id a5);(try obtain⟨ch,bQ,cn,b8,bT,ck,bR⟩:=id aE);(try obtain⟨cd,bP,ca,bU,b7,bZ,cp⟩:=id aU))|(rintro e ax ⟨rfl,H⟩;have ab:=bel_then (show Below wr.heap.size wr _ from(by repeat' (first|with_reducible exact ac|with_reducible exact ab|with_reducible exact Below.refl _ _|with_reducible refine Below.drew ?_|with_reducible refine bel_box ?_ _|with_reducible refine Below.setCell ?_ ?_ _|(show wr.heap.size<=_;simp;done)|(show wr.heap.size<=_;simp;omega)))) H;have cX:=ab.size;(first|(with_reducible have am:=Z3.below (Z3.drew (Z3.alloc (Z3.new (W:=wr) rfl) _)) H;with_reducible have aZ:=Z3.below (Z3.drew (Z3.new1 (W:=wr))) H)|(with_reducible have am:=Z3.below (Z3.drew (Z3.new (W:=wr) rfl)) H)|skip);(try obtain⟨b6,cf,b9,bX,bY,ci,cr⟩:=id am);(try obtain⟨cm,b0,ce,cv,cw,bL,bV⟩:=id aZ))))
    all_goals go_wp2_with fail
    all_goals go_meet
    all_goals refine⟨_,_,rfl,rfl,?_,?_,(by repeat' (first|with_reducible exact ac|with_reducible exact ab|with_reducible exact Below.refl _ _|with_reducible refine Below.drew ?_|with_reducible refine bel_box ?_ _|with_reducible refine Below.setCell ?_ ?_ _|(show wr.heap.size<=_;simp;done)|(show wr.heap.size<=_;simp;omega)))⟩
    all_goals repeat' (first|with_reducible exact aC|with_reducible exact a5|with_reducible exact aE|with_reducible exact aU|with_reducible exact VB.new (by simp)|with_reducible refine VB.stored ?_|with_reducible refine VB.other ?_ ?_|with_reducible refine VB.alloc ?_ _|with_reducible refine Z3.alloc ?_ _|with_reducible refine Z3.other ?_ ?_|omega)
   case rest=>
    obtain⟨b1,b2,rfl,rfl,⟨-,c1,-,l1⟩,⟨-,c2,-,l2⟩,ap⟩:=hcut;have j5':=cK ap aw j5;have hjl':w.heap.size<wc.heap.size:=Nat.lt_of_lt_of_le aw ap.size;obtain⟨ae,⟨ha,hb⟩,ah⟩:=aV.out;have a4:=Hk (fun W=>QkB j.op (Qb6 cs rk j.left).2.1 (Qb6 cs rk j.right).2.1 W ha hb);generalize a8:QlX j.op.data.toList (Qb6 cs rk j.left).2.1 (Qb6 cs rk j.right).2.1=res at*;have a1:=Hk ap;have aY:=Hk (Ai ae ah);clear ap ae ah ha hb a8 aV
    by_cases N:Qaz res
    ·have ay:=Hk (fun W=>QfC res W N);have ar:=Hk N;clear N;obtain⟨hu,M,af,V,U⟩:=HU.out;have aA:at_<rk.length:=by omega
     obtain⟨v0,v1,v2⟩:=QcM rk at_ aA;have e0:=U _ _ v0;have e1:=U _ _ v1;have e2:=U _ _ v2;rw[Nat.zero_add] at e0 e1 e2;have fz:=fun o=>M.frozenAt o
     clear v0 v1 v2 hu M af U;go_wp2_with (first|(go_at_call 172;refine(a4.out _).mono ?_;rintro e w5 ⟨rfl,rfl⟩)|(go_at_call 171;refine(ay.out _).mono ?_;rintro e w6 ⟨rfl,aB⟩;have D:=bel_then a1.out aB;have d0:=cK D J e0;have d1:=cK D J e1;have d2:=cK D J e2;have f0:=(D.frozen (p:=⟨rb,at_*3,none⟩) J).trans (fz _);have f1:=(D.frozen (p:=⟨rb,at_*3+1,none⟩) J).trans (fz _);have f2:=(D.frozen (p:=⟨rb,at_*3+2,none⟩) J).trans (fz _);have cD:=Nat.lt_of_lt_of_le J D.size));go_roundw
     case rel=>
      obtain⟨F,y,O,I,Z⟩:=HR.out;obtain⟨hu,M,af,V,U⟩:=HU.out;have al:rb≠w.heap.size:=by have:=bq.out _ _ hu rb rfl;omega
      have ak:=aY.out.2;have ad:=a3.out;subst ad;rw[<-ak] at ar⊢;refine⟨k+1,by omega,by go_num,?_,?_,?_,?_,?_⟩
      ·exact(QhW (owns_below F D) ((Qb2 (by decide) F M).resolve_left (by simp[Value.ownBlock]))).alloc _
      ·exact(Qmf (y.below D) br.out K hu aA).below (Qaa _ _)
      ·intro q hq c6;rcases Nat.lt_or_ge q k with h|h
       ·exact O q hq h
       ·obtain rfl:q=k:=by omega
        exact ar.out
      ·exact(((((I.below D aw).elsewhere al).elsewhere al).elsewhere al)).below (Qaa _ _) (by have:=D.size;simp;omega)
      ·exact Qp8 hB ((((Qp8 hB Z D).setCell V _).setCell V _).setCell V _) (Qaa _ _)
     case measure=>simp[intOf];omega
    ·have aH:=fun W=>Qeo res W N
     rw[QaS (by decide)] at aH;have ay:=Hk aH;have ar:=Hk N;clear N aH;go_wp2_with (first|(go_at_call 172;refine(a4.out _).mono ?_;rintro e w5 ⟨rfl,rfl⟩)|(go_at_call 171;refine(ay.out _).mono ?_;rintro e w6 ⟨rfl,aB⟩))
     go_ret2
     have ak:=aY.out.2;have ad:=a3.out;subst ad;refine⟨Or.inr ⟨⟨rs[k],List.getElem_mem K,?_⟩,rfl⟩,Qp8 hB (Qp8 hB (Qp8 hB HR.out.2.2.2.2 a1.out) aB) (Qaa _ _)⟩;rw[ak];exact ar.out
  ·have bs:k=rs.length:=by omega
   subst bs;rw[Qn4] at y;have az:=Hk (Ai F (Ai y Z));have a7:=Hk O;clear F y O I Z HR;go_wp2
   go_ret2
   refine⟨Or.inl ⟨?_,rfl,az.out.1,az.out.2.1⟩,az.out.2.2⟩;intro r hr;obtain⟨q,hq,rfl⟩:=List.mem_iff_getElem.1 hr;exact a7.out q hq hq
end Go.Proofs.YtjlgejennghhlaaGreatDoor
