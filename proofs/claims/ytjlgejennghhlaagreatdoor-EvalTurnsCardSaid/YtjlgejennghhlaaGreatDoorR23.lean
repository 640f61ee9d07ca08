import Derived.Deep.RegionHeld3
import Derived.Deep.DeepCutAuto
import Derived.Test.YtjlgejennghhlaaGreatDoorR01
import Derived.Test.YtjlgejennghhlaaGreatDoorR10
import Derived.Test.YtjlgejennghhlaaGreatDoorR19
set_option linter.unusedSimpArgs false
set_option linter.unusedVariables false
set_option linter.unusedSectionVars false
set_option maxRecDepth 1000000
set_option maxHeartbeats 16000000
namespace Go.Proofs.YtjlgejennghhlaaGreatDoor
open Go.RowKit
def Qi7 (cs:List Cl) (j:Jb) (r:List Vl):Int:=Qmb j.op.data.toList (Qb8 cs r j.left).2.1 (Qb8 cs r j.right).2.1
def Qmq (cs:List Cl) (j:Jb) (at_:Nat) (r:List Vl):List Vl:=r.set at_ (1,Qi7 cs j r,⟨#[]⟩)
def Qhn (cs:List Cl) (j:Jb) (at_:Nat) (rs:List (List Vl)) (k:Nat):List (List Vl):=(rs.take k).map (Qmq cs j at_)++rs.drop k
theorem Qqv (cs:List Cl) (j:Jb) (at_:Nat) (rs:List (List Vl)):Qhn cs j at_ rs 0=rs:=by simp[Qhn]
theorem Qod (cs:List Cl) (j:Jb) (at_:Nat) (rs:List (List Vl)):Qhn cs j at_ rs rs.length=rs.map (Qmq cs j at_):=by simp[Qhn]
theorem Qeb (cs:List Cl) (j:Jb) (at_:Nat) (rs:List (List Vl)) (k:Nat):(Qhn cs j at_ rs k).length=rs.length:=by
 rw[Qhn,List.length_append,List.length_map,List.length_take,List.length_drop];omega
theorem Qmr (cs:List Cl) (j:Jb) (at_:Nat) (rs:List (List Vl)) (k:Nat) (y:k<rs.length):(Qhn cs j at_ rs k)[k]'(by rw[Qeb];exact y)=rs[k]:=by
 have h:(Qhn cs j at_ rs k)[k]? =some rs[k]:=by
  rw[Qhn,List.getElem?_append_right (by rw[List.length_map,List.length_take];omega),List.length_map,List.length_take,show k-min k rs.length=0 by omega,List.getElem?_drop,Nat.add_zero,List.getElem?_eq_getElem y]
 rw[List.getElem?_eq_getElem (by rw[Qeb];exact y)] at h;exact Option.some.inj h
theorem Qms (cs:List Cl) (j:Jb) (at_:Nat) (rs:List (List Vl)) (k:Nat) (h:k<rs.length):(Qhn cs j at_ rs k).set k (Qmq cs j at_ rs[k])=Qhn cs j at_ rs (k+1):=by
 have y:((rs.take k).map (Qmq cs j at_)).length=k:=by rw[List.length_map,List.length_take];omega
 rw[Qhn,List.set_append_right k _ (by omega),y,Nat.sub_self,List.drop_eq_getElem_cons h,List.set_cons_zero,Qhn,List.take_succ_eq_append_getElem h,List.map_append];simp
theorem Qqf {B:Nat} {w w' y:World} (D:B<=w.heap.size) (h:Below B w w') (E:Below w'.heap.size w' y):Below B w y:=h.trans (E.mono (Nat.le_trans D h.size))
theorem Qrn {W y:World} {N:Nat} {M Z v8 O H J I F:Value} (D:Below W.heap.size W y) (h:W.cell? ⟨N,6,none⟩=some M/\W.cell? ⟨N,7,none⟩=some Z/\W.cell? ⟨N,8,none⟩=some v8/\W.cell? ⟨N,9,none⟩=some O/\W.cell? ⟨N,10,none⟩=some H/\W.cell? ⟨N,11,none⟩=some J/\W.cell? ⟨N,12,none⟩=some I/\W.cell? ⟨N,13,none⟩=some F):
 y.cell? ⟨N,6,none⟩=some M/\y.cell? ⟨N,7,none⟩=some Z/\y.cell? ⟨N,8,none⟩=some v8/\y.cell? ⟨N,9,none⟩=some O/\y.cell? ⟨N,10,none⟩=some H/\y.cell? ⟨N,11,none⟩=some J/\y.cell? ⟨N,12,none⟩=some I/\y.cell? ⟨N,13,none⟩=some F:=by
 obtain⟨h6,h7,h8,h9,U,aa,V,K⟩:=h;have E:N<W.heap.size:=World.block_lt_of_cell? W _ h6;exact⟨cK D E h6,cK D E h7,cK D E h8,cK D E h9,cK D E U,cK D E aa,cK D E V,cK D E K⟩
def Z3 (w:World) (b:Nat):Prop:=w.cell? ⟨b,0,none⟩=some (.int .i64 0)/\w.cell? ⟨b,0+1,none⟩=some (.int .i64 0)/\w.cell? ⟨b,0+2,none⟩=some (.string ⟨#[]⟩)/\w.frozen? ⟨b,0,none⟩=false/\w.frozen? ⟨b,0+1,none⟩=false/\w.frozen? ⟨b,0+2,none⟩=false/\b<w.heap.size
theorem Z3.below {W E:World} {b:Nat} (h:Z3 W b) (D:Below W.heap.size W E):Z3 E b:=by
 obtain⟨K,J,I,M,H,F,y⟩:=h;exact⟨cK D y K,cK D y J,cK D y I,(D.frozen (p:=⟨b,0,none⟩) y).trans M,(D.frozen (p:=⟨b,0+1,none⟩) y).trans H,(D.frozen (p:=⟨b,0+2,none⟩) y).trans F,Nat.lt_of_lt_of_le y D.size⟩
theorem Z3.alloc {W:World} {b:Nat} (h:Z3 W b) (o:Obj):Z3 (W.alloc o) b:=h.below (Qaa _ _)
theorem Z3.drew {W:World} {b:Nat} (h:Z3 W b):Z3 W.drew b:=h.below (Below.refl _ _).drew
theorem Z3.new {W:World} {b:Nat} {t:TypeId} (h:W.heap.size=b):Z3 (W.alloc (.cells #[.int .i64 0,.int .i64 0,.string ⟨#[]⟩] t)) b:=by
 subst h;exact⟨by simp,by simp,by simp,by simp,by simp,by simp,by simp⟩
theorem Z3.new1 {W:World} {o:Obj} {t:TypeId}:Z3 ((W.alloc o).alloc (.cells #[.int .i64 0,.int .i64 0,.string ⟨#[]⟩] t)) (W.heap.size+1):=Z3.new (by simp)
def VB (w:World) (b:Nat) (x:Vl):Prop:=w.cell? ⟨b,0,none⟩=some (.int .i64 x.1)/\w.cell? ⟨b,0+1,none⟩=some (.int .i64 x.2.1)/\w.cell? ⟨b,0+2,none⟩=some (.string x.2.2)/\b<w.heap.size
theorem VB.alloc {W:World} {b:Nat} {x:Vl} (h:VB W b x) (o:Obj):VB (W.alloc o) b x:=by
 obtain⟨H,F,E,y⟩:=h;have D:=Qaa W o;exact⟨cK D y H,cK D y F,cK D y E,Nat.lt_of_lt_of_le y D.size⟩
theorem VB.new {W:World} {b:Nat} {t:TypeId} {x:Vl} (h:W.heap.size=b):VB (W.alloc (.cells #[.int .i64 x.1,.int .i64 x.2.1,.string x.2.2] t)) b x:=by
 subst h;exact⟨by simp,by simp,by simp,by simp⟩
theorem VB.other {W:World} {b c:Nat} {x:Vl} {p q r:Value} (h:VB W b x) (J:c≠b):VB (((W.setCell ⟨c,0,none⟩ p).setCell ⟨c,1,none⟩ q).setCell ⟨c,2,none⟩ r) b x:=by
 obtain⟨I,H,F,E⟩:=h;have D:∀(w:World) k o y,(w.setCell ⟨c,o,none⟩ y).cell? ⟨b,k,none⟩=w.cell? ⟨b,k,none⟩:=fun w k o y=>World.cell?_setCell_other _ _ _ _ (by intro e;simp only[Addr.mk.injEq] at e;omega)
 exact⟨by rw[D,D,D];exact I,by rw[D,D,D];exact H,by rw[D,D,D];exact F,by simpa using E⟩
theorem Z3.other {W:World} {b c:Nat} {p q r:Value} (h:Z3 W b) (N:c≠b):Z3 (((W.setCell ⟨c,0,none⟩ p).setCell ⟨c,1,none⟩ q).setCell ⟨c,2,none⟩ r) b:=by
 obtain⟨K,J,I,M,F,E,H⟩:=h;have D:∀(w:World) k o y,(w.setCell ⟨c,o,none⟩ y).cell? ⟨b,k,none⟩=w.cell? ⟨b,k,none⟩:=fun w k o y=>World.cell?_setCell_other _ _ _ _ (by intro e;simp only[Addr.mk.injEq] at e;omega)
 exact⟨by rw[D,D,D];exact K,by rw[D,D,D];exact J,by rw[D,D,D];exact I,by simpa using M,by simpa using F,by simpa using E,by simpa using H⟩
theorem VB.stored {W:World} {b:Nat} {x:Vl} (h:Z3 W b):VB (((W.setCell ⟨b,0,none⟩ (.int .i64 x.1)).setCell ⟨b,1,none⟩ (.int .i64 x.2.1)).setCell ⟨b,2,none⟩ (.string x.2.2)) b x:=by
 obtain⟨F,E,D,J,I,H,y⟩:=h;refine⟨?_,?_,?_,by simpa using y⟩
 ·rw[World.cell?_setCell_other _ _ _ _ (by intro e;simp at e),World.cell?_setCell_other _ _ _ _ (by intro e;simp at e)];exact World.cell?_setCell_same _ _ _ F
 ·rw[World.cell?_setCell_other _ _ _ _ (by intro e;simp at e)];exact World.cell?_setCell_same _ _ _ ((World.cell?_setCell_other _ _ _ _ (by intro e;simp at e)).trans E)
 ·exact World.cell?_setCell_same _ _ _ ((World.cell?_setCell_other _ _ _ _ (by intro e;simp at e)).trans ((World.cell?_setCell_other _ _ _ _ (by intro e;simp at e)).trans D))
theorem Qmt {w:World} {B g c k at_:Nat} {us:List Value} {rs:List (List Vl)} {cs:List Cl} {j:Jb} (h:Qab w B us (Qhn cs j at_ rs k)) (D:us.Pairwise Apart) (y:k<rs.length) (E:us[k]? =some (.slice (some ⟨g,0,none⟩) rs[k].length c)) (F:at_<rs[k].length):
 Qab (((w.setCell ⟨g,at_*3,none⟩ (.int .i64 1)).setCell ⟨g,at_*3+1,none⟩ (.int .i64 (Qi7 cs j rs[k]))).setCell ⟨g,at_*3+2,none⟩ (.string ⟨#[]⟩)) B us (Qhn cs j at_ rs (k+1)):=by
 have hk':k<(Qhn cs j at_ rs k).length:=by rw[Qeb];exact y
 have e:=Qmr cs j at_ rs k y;have:=h.store D hk' (g:=g) (c:=c) (by rw[e];exact E) at_ (1,Qi7 cs j rs[k],⟨#[]⟩) (by rw[e];exact F) (by show(0:Nat)<=maxLen;exact Nat.zero_le _);rw[e] at this;rw[<-Qms cs j at_ rs k y];exact this
theorem QaC.elsewhere {w:World} {N b:Nat} {j:Jb} {o:Nat} {x:Value} (h:QaC w N j) (y:b≠N):QaC (w.setCell ⟨b,o,none⟩ x) N j:=fun k v hk=>(World.cell?_setCell_other _ _ _ _ (by intro e;simp only[Addr.mk.injEq] at e;omega)).trans (h k v hk)
theorem Qmu {w:World} {B k at_:Nat} {us:List Value} {rs:List (List Vl)} {cs:List Cl} {j:Jb} {u:Value} (h:Qab w B us (Qhn cs j at_ rs k)) (F:k<rs.length) (y:us[k]? =some u):w.ownsRow B 46 3 u rs[k].length (Qag rs[k])/\∀x∈rs[k],x.2.2.size<=maxLen:=by
 have D:k<us.length:=(List.getElem?_eq_some_iff.1 y).1;have E:=h.2 k D (by rw[Qeb];exact F);rw[List.getElem?_eq_getElem D] at y;injection y with y;rw[y] at E;simp only[Qmr cs j at_ rs k F] at E;exact E
theorem Qh3 (v vc:Value) (cs:List Cl) (rs:List (List Vl)) (us:List Value) (j:Jb) (nm:ByteArray) (cb co cc at_ B:Nat) (w:World) (hv:w.ownsRow B 84 1 v rs.length us) (hH:Qab w B us rs) (hp:us.Pairwise Apart)
 (ap:∀W,Below B w W->Qax W vc cs) (aK:j.cols=.slice (some ⟨cb,co,none⟩) 1 cc) (aP:∀W,Below B w W->W.cell? ⟨cb,co,none⟩=some (.string nm)) (cY:cb<w.heap.size) (aE:Qaq cs nm.data.toList=some at_)
 (h1:1<=cs.length) (h6:cs.length<=100) (hl:∀r∈rs,r.length=cs.length) (cU:rs.length<=100) (aZ:QdW cs j.left) (aW:QdW cs j.right) (M:∀r∈rs,Qaz (Qb8 cs r j.left).2.1/\Qaz (Qb8 cs r j.right).2.1) (hB:B<=w.heap.size):
 Calls Tryz.prog 142 #[.agg j.cells,vc,v] w fun e w'=>(((∀r∈rs,Qaz (Qi7 cs j r))/\e=.returned (.tuple #[v,.nilIface])/\w'.ownsRow B 84 1 v rs.length us/\Qab w' B us (rs.map (Qmq cs j at_)))\/((∃r∈rs,¬Qaz (Qi7 cs j r))/\e=.returned (.tuple #[.slice none 0 0,QbN 2])))/\Below B w w':=by
 have cJ:=Qap aE;have hP:=fun W (hW:Below B w W)=>QlL vc cs nm W (ap W hW) h1 h6
 rw[show QaB cs nm.data.toList=(at_:Int) by rw[QaB,aE]] at hP;have HP:=Hk hP;have HC:=Hk ap;have HN:=Hk aP;have HI:=Hk M;have HL:=Hk hl;have HO:=Hk (Ai aZ aW);have bq:=Hk hp;have am:=Qcf w j 50;have s0:=HN.out w (Below.refl _ _);have bF:=ap w (Below.refl _ _);obtain⟨va,cV,rfl,-⟩:=bF;obtain⟨ra,bi,rfl⟩:=own_slice hv;have HV:=Hk (Ai hv hH);unfold Jb.cells at am⊢;rw[aK] at am⊢;have aM:=Hk am;have aN:∀(q:Nat) (u:Value),us[q]? =some u->∀b:Nat,u.ownBlock=some b->b<w.heap.size:=fun q u hq b hb=>by
  obtain⟨J,rfl⟩:=List.getElem?_eq_some_iff.1 hq;exact((hH.2 q J (by rw[<-hH.1];exact J)).1.lt b hb).2
 have bp:=Hk aN;clear am hP aE M hl aZ aW hp hv hH ap aP aN;go_enter Tryz.func142,Tryz.ntmps142;go_wp2_with (go_at_call 133;refine(HP.out _ ((Qaa _ _).mono hB)).mono ?_;rintro e w1 ⟨rfl,F⟩);have aF:Below B w w1:=Qqf hB ((Qaa w _).mono hB) F;have a1:=aM.out.below F (by simp);have aR:=owns_below (HV.out.1.alloc _) F;have aV:=(HV.out.2.below (Qaa _ _)).below F;have c6:w.heap.size<w1.heap.size:=by have:=F.size;simp at this;omega
 have H1:=Hk (Ai a1 (Ai aR (Ai aV aF)));clear F aF a1 aR aV aM HV HP s0;go_loopw [23] (fun i wr=>∃k:Nat,k<=rs.length/\i=.int .i64 k/\wr.ownsRow B 84 1 (.slice ra rs.length bi) rs.length us/\Qab wr B us (Qhn cs j at_ rs k)/\(∀q (h:q<rs.length),q<k->Qaz (Qi7 cs j rs[q]))/\QaC wr w.heap.size j/\Below B w wr) (fun i _=>rs.length-(intOf i).toNat)
 case atStart=>exact⟨0,Nat.zero_le _,rfl,H1.out.2.1,by rw[Qqv];exact H1.out.2.2.1,fun q _ h=>absurd h (by omega),H1.out.1,H1.out.2.2.2⟩
 case round=>
  obtain⟨k,hk,rfl,E,y,N,H,V⟩:=hrel;have HR:=Hk (Ai E (Ai y (Ai N (Ai H V))))
  by_cases J:k<rs.length
  ·obtain⟨g,gc,aQ,c7,cT,aO⟩:=QcD E (by omega);simp only[Value.slice.injEq,true_and] at aQ;obtain⟨rfl,rfl⟩:=aQ;have aS:k<us.length:=by rw[y.1,Qeb];exact J
   obtain⟨u,hu⟩:∃u,us[k]? =some u:=⟨us[k],List.getElem?_eq_getElem aS⟩;obtain⟨K,ae⟩:=Qmu y J hu;have ad:=HL.out _ (List.getElem_mem J);obtain⟨rb,uc,rfl,U,I,O⟩:=QcD K (by omega);have cu:=aO k _ hu;rw[Nat.zero_add] at cu;have aC:=QbE K ae;have hV:=fun(x:Ag) (hx:x=j.left\/x=j.right) W (hW:Below wr.heap.size wr W)=>Qfw _ _ cs rs[k] x W ((HC.out wr V).below hW) (aC.below hW) h6 ad (by rcases hx with rfl|rfl;exact HO.out.1;exact HO.out.2)
   have ar:=HI.out _ (List.getElem_mem J);have av:=H.lt;have ag:Qi7 cs j rs[k]=Qmb j.op.data.toList (Qb8 cs rs[k] j.left).2.1 (Qb8 cs rs[k] j.right).2.1:=rfl;have j5:wr.cell? ⟨w.heap.size,5,none⟩=some (Value.string j.op):=H 5 _ rfl;have j6:wr.cell? ⟨w.heap.size,6,none⟩=some (Value.string j.left.1):=H 6 _ rfl;have j7:wr.cell? ⟨w.heap.size,7,none⟩=some (Value.int .i64 j.left.2.1):=H 7 _ rfl;have j8:wr.cell? ⟨w.heap.size,8,none⟩=some (Value.int .i64 j.left.2.2.1):=H 8 _ rfl;have j9:wr.cell? ⟨w.heap.size,9,none⟩=some (Value.string j.left.2.2.2):=H 9 _ rfl;have bo:wr.cell? ⟨w.heap.size,10,none⟩=some (Value.string j.right.1):=H 10 _ rfl;have bB:wr.cell? ⟨w.heap.size,11,none⟩=some (Value.int .i64 j.right.2.1):=H 11 _ rfl;have bt:wr.cell? ⟨w.heap.size,12,none⟩=some (Value.int .i64 j.right.2.2.1):=H 12 _ rfl;have bH:wr.cell? ⟨w.heap.size,13,none⟩=some (Value.string j.right.2.2.2):=H 13 _ rfl;have bk:=Hk hV;have HU:=Hk (Ai hu (Ai K (Ai ae (Ai U O))));have aU:=Hk (Ai ad (Ai ar ag));have hrl':(at_:Int)<(rs[k].length:Int):=by omega
   clear hV hu K ae aC U O aO E y N H V ar ag aS ad;generalize ac:rs[k]=rk at*;have a2:=Hk ac;clear ac;go_wp2_with fail
   go_cut [11,12] (fun p q wx=>∃b1 b2:Nat,p=.pointer (some ⟨b1,0,none⟩)/\q=.pointer (some ⟨b2,0,none⟩)/\VB wx b1 (Qb8 cs rk j.left)/\VB wx b2 (Qb8 cs rk j.right)/\Below wr.heap.size wr wx)
   case first=>
    go_region_held3 (fun w'=>w'.cell? ⟨w.heap.size,6,none⟩=some (Value.string j.left.1)/\w'.cell? ⟨w.heap.size,7,none⟩=some (Value.int .i64 j.left.2.1)/\w'.cell? ⟨w.heap.size,8,none⟩=some (Value.int .i64 j.left.2.2.1)/\w'.cell? ⟨w.heap.size,9,none⟩=some (Value.string j.left.2.2.2)/\w'.cell? ⟨w.heap.size,10,none⟩=some (Value.string j.right.1)/\w'.cell? ⟨w.heap.size,11,none⟩=some (Value.int .i64 j.right.2.1)/\w'.cell? ⟨w.heap.size,12,none⟩=some (Value.int .i64 j.right.2.2.1)/\w'.cell? ⟨w.heap.size,13,none⟩=some (Value.string j.right.2.2.2))
     (exact Qrn (W:=wr) (by repeat' (first|with_reducible exact ab|with_reducible exact aa|with_reducible exact Below.refl _ _|with_reducible refine Below.drew ?_|with_reducible refine bel_box ?_ _|with_reducible refine Below.setCell ?_ ?_ _|(show wr.heap.size<=_;simp;done)|(show wr.heap.size<=_;simp;omega))) ⟨j6,j7,j8,j9,bo,bB,bt,bH⟩)
     (first|(go_at_call 141;refine(bk.out _ (by first|exact Or.inl rfl|exact Or.inr rfl) _ (by repeat' (first|with_reducible exact ab|with_reducible exact aa|with_reducible exact Below.refl _ _|with_reducible refine Below.drew ?_|with_reducible refine bel_box ?_ _|with_reducible refine Below.setCell ?_ ?_ _|(show wr.heap.size<=_;simp;done)|(show wr.heap.size<=_;simp;omega)))).mono ?_;first|(have bz:=aa;clear bz;rintro e cX ⟨rfl,Z⟩;have ab:=bel_then (show Below wr.heap.size wr _ from(by repeat' (first|with_reducible exact ab|with_reducible exact aa|with_reducible exact Below.refl _ _|with_reducible refine Below.drew ?_|with_reducible refine bel_box ?_ _|with_reducible refine Below.setCell ?_ ?_ _|(show wr.heap.size<=_;simp;done)|(show wr.heap.size<=_;simp;omega)))) Z;have cS:=ab.size;(first|(with_reducible have aB:=Z3.below al Z)|(with_reducible have aB:=Z3.below (Z3.alloc al _) Z)|skip);(first|(with_reducible have a4:=Z3.below aY Z)|skip);(first|(with_reducible have aD:=Z3.below (Z3.alloc (Z3.new (W:=aw) rfl) _) Z;with_reducible have aT:=Z3.below (Z3.new1 (W:=aw)) Z)|(with_reducible have aD:=Z3.below (Z3.new (W:=aw) rfl) Z)|skip);(try obtain⟨b3,bV,b0,cr,b4,bN,cf⟩:=id aB);(try obtain⟨bR,bL,ci,cw,bM,cp,cx⟩:=id a4);(try obtain⟨cg,bP,cm,b7,bS,cj,bQ⟩:=id aD);(try obtain⟨ca,bO,b9,bT,b6,bY,cn⟩:=id aT))|(rintro e aw ⟨rfl,F⟩;have aa:=bel_then (show Below wr.heap.size wr _ from(by repeat' (first|with_reducible exact ab|with_reducible exact aa|with_reducible exact Below.refl _ _|with_reducible refine Below.drew ?_|with_reducible refine bel_box ?_ _|with_reducible refine Below.setCell ?_ ?_ _|(show wr.heap.size<=_;simp;done)|(show wr.heap.size<=_;simp;omega)))) F;have cW:=aa.size;(first|(with_reducible have al:=Z3.below (Z3.drew (Z3.alloc (Z3.new (W:=wr) rfl) _)) F;with_reducible have aY:=Z3.below (Z3.drew (Z3.new1 (W:=wr))) F)|(with_reducible have al:=Z3.below (Z3.drew (Z3.new (W:=wr) rfl)) F)|skip);(try obtain⟨b5,ce,b8,bW,bX,ch,cq⟩:=id al);(try obtain⟨ck,bZ,cd,ct,cv,bK,bU⟩:=id aY))))
    all_goals go_wp2_with fail
    all_goals go_meet
    all_goals refine⟨_,_,rfl,rfl,?_,?_,(by repeat' (first|with_reducible exact ab|with_reducible exact aa|with_reducible exact Below.refl _ _|with_reducible refine Below.drew ?_|with_reducible refine bel_box ?_ _|with_reducible refine Below.setCell ?_ ?_ _|(show wr.heap.size<=_;simp;done)|(show wr.heap.size<=_;simp;omega)))⟩
    all_goals repeat' (first|with_reducible exact aB|with_reducible exact a4|with_reducible exact aD|with_reducible exact aT|with_reducible exact VB.new (by simp)|with_reducible refine VB.stored ?_|with_reducible refine VB.other ?_ ?_|with_reducible refine VB.alloc ?_ _|with_reducible refine Z3.alloc ?_ _|with_reducible refine Z3.other ?_ ?_|omega)
   case rest=>
    obtain⟨b1,b2,rfl,rfl,⟨-,c1,-,l1⟩,⟨-,c2,-,l2⟩,ao⟩:=hcut;have j5':=cK ao av j5;have hjl':w.heap.size<wc.heap.size:=Nat.lt_of_lt_of_le av ao.size;obtain⟨ad,⟨ha,hb⟩,ag⟩:=aU.out;have a3:=Hk (fun W=>QkN j.op (Qb8 cs rk j.left).2.1 (Qb8 cs rk j.right).2.1 W ha hb);generalize a7:Qmb j.op.data.toList (Qb8 cs rk j.left).2.1 (Qb8 cs rk j.right).2.1=res at*;have a0:=Hk ao;have aX:=Hk (Ai ad ag);clear ao ad ag ha hb a7 aU
    by_cases M:Qaz res
    ·have ax:=Hk (fun W=>QfF res W M);have aq:=Hk M;clear M;obtain⟨hu,K,ae,U,O⟩:=HU.out;have az:at_<rk.length:=by omega
     obtain⟨v0,v1,v2⟩:=QcP rk at_ az;have e0:=O _ _ v0;have e1:=O _ _ v1;have e2:=O _ _ v2;rw[Nat.zero_add] at e0 e1 e2;have fz:=fun o=>K.frozenAt o
     clear v0 v1 v2 hu K ae O;go_wp2_with (first|(go_at_call 172;refine(a3.out _).mono ?_;rintro e w5 ⟨rfl,rfl⟩)|(go_at_call 171;refine(ax.out _).mono ?_;rintro e w6 ⟨rfl,aA⟩;have D:=bel_then a0.out aA;have d0:=cK D I e0;have d1:=cK D I e1;have d2:=cK D I e2;have f0:=(D.frozen (p:=⟨rb,at_*3,none⟩) I).trans (fz _);have f1:=(D.frozen (p:=⟨rb,at_*3+1,none⟩) I).trans (fz _);have f2:=(D.frozen (p:=⟨rb,at_*3+2,none⟩) I).trans (fz _);have cC:=Nat.lt_of_lt_of_le I D.size));go_roundw
     case rel=>
      obtain⟨E,y,N,H,V⟩:=HR.out;obtain⟨hu,K,ae,U,O⟩:=HU.out;have ak:rb≠w.heap.size:=by have:=bp.out _ _ hu rb rfl;omega
      have aj:=aX.out.2;have ac:=a2.out;subst ac;rw[<-aj] at aq⊢;refine⟨k+1,by omega,by go_num,?_,?_,?_,?_,?_⟩
      ·exact(Qh2 (owns_below E D) ((Qb4 (by decide) E K).resolve_left (by simp[Value.ownBlock]))).alloc _
      ·exact(Qmt (y.below D) bq.out J hu az).below (Qaa _ _)
      ·intro q hq cZ;rcases Nat.lt_or_ge q k with h|h
       ·exact N q hq h
       ·obtain rfl:q=k:=by omega
        exact aq.out
      ·exact(((((H.below D av).elsewhere ak).elsewhere ak).elsewhere ak)).below (Qaa _ _) (by have:=D.size;simp;omega)
      ·exact Qqf hB ((((Qqf hB V D).setCell U _).setCell U _).setCell U _) (Qaa _ _)
     case measure=>simp[intOf];omega
    ·have aG:=fun W=>Qet res W M
     rw[QaT (by decide)] at aG;have ax:=Hk aG;have aq:=Hk M;clear M aG;go_wp2_with (first|(go_at_call 172;refine(a3.out _).mono ?_;rintro e w5 ⟨rfl,rfl⟩)|(go_at_call 171;refine(ax.out _).mono ?_;rintro e w6 ⟨rfl,aA⟩))
     go_ret2
     have aj:=aX.out.2;have ac:=a2.out;subst ac;refine⟨Or.inr ⟨⟨rs[k],List.getElem_mem J,?_⟩,rfl⟩,Qqf hB (Qqf hB (Qqf hB HR.out.2.2.2.2 a0.out) aA) (Qaa _ _)⟩;rw[aj];exact aq.out
  ·have br:k=rs.length:=by omega
   subst br;rw[Qod] at y;have ay:=Hk (Ai E (Ai y V));have a6:=Hk N;clear E y N H V HR;go_wp2
   go_ret2
   refine⟨Or.inl ⟨?_,rfl,ay.out.1,ay.out.2.1⟩,ay.out.2.2⟩;intro r hr;obtain⟨q,hq,rfl⟩:=List.mem_iff_getElem.1 hr;exact a6.out q hq hq
end Go.Proofs.YtjlgejennghhlaaGreatDoor
