import Derived.Deep.RegionHeld3
import Derived.Deep.DeepCutAuto
import Derived.Test.YtofidnijfnhpaaaGreatDoorQ01
import Derived.Test.YtofidnijfnhpaaaGreatDoorQ05
import Derived.Test.YtofidnijfnhpaaaGreatDoorQ07
set_option linter.unusedSimpArgs false
set_option linter.unusedVariables false
set_option linter.unusedSectionVars false
set_option maxRecDepth 1000000
set_option maxHeartbeats 16000000
namespace Go.Proofs.YtofidnijfnhpaaaGreatDoor
open Go.RowKit
theorem QjR {w D:World} {B h:Nat} {u v:Value} {e y:TypeId} {z j k o:Nat} {E F:List Value} (q:w.ownsRow B e z u k E) (J:D.ownsRow h y j v o F) (K:w.heap.size<=h):Qbt u v:=by
 intro b A I
 have:=(q.lt b A).2
 have:=(J.lt b I).1
 omega
theorem QiP {w E:World} {B q:Nat} {us:List Value} {rs:List (List Vl)} {u:Value} {D:TypeId} {z A:Nat} {I:List Value} (h:us.Pairwise Qbt) (o:Qac w B us rs) (J:E.ownsRow q D z u A I) (F:w.heap.size<=q):(us++[u]).Pairwise Qbt:=by
 rw[List.pairwise_append]
 refine⟨h,List.pairwise_singleton _ _,fun a ha b hb=>?_⟩
 simp at hb
 subst hb
 obtain⟨j,y,rfl⟩:=List.mem_iff_getElem.1 ha
 exact QjR (o.2 j y (by rw[<-o.1];exact y)).1 J F
theorem QgQ (v:Value) (rs:List (List Vl)) (m:Nat) (w:World) (hr:QaC w v rs) (hl:∀r∈rs,r.length=m) (h1:1<=m) (h6:m<=100) (aD:rs.length<=100):
 Calls Tryz.prog 63 #[v] w fun e w'=>∃v' us,e=.returned v'/\w'.ownsRow w.heap.size 57 1 v' rs.length us/\Qac w' w.heap.size us rs/\us.Pairwise Qbt/\Below w.heap.size w w':=by
 obtain⟨i0,hi,ar,al,aq⟩:=info_parts Tryz.infoRow
 have HR:=Hk hr
 have HL:=Hk hl
 clear hl
 obtain⟨va,aH,rfl,-⟩:=hr
 go_enter Tryz.func63,Tryz.ntmps63
 go_wp2
 go_loopw [3,8] (fun l i wr=>∃(k:Nat) (us:List Value),k<=rs.length/\i=.int .i64 k/\wr.ownsRow w.heap.size 57 1 l k us/\Qac wr w.heap.size us (rs.take k)/\us.Pairwise Qbt/\Below w.heap.size w wr) (fun _ i _=>rs.length-(intOf i).toNat)
 case atStart=>exact⟨0,[],Nat.zero_le _,rfl,World.ownsRow_nil _ _ _ _,Qac.nil _ _,List.Pairwise.nil,Below.refl _ _⟩
 case round=>
  obtain⟨k,us,hk,rfl,z,h,J,A⟩:=hrel
  obtain⟨la,lc,rfl⟩:=Qae z
  have y:=Hk (Ai z (Ai h J))
  have HX:=Hk A
  have aE:=A.size
  by_cases hlt:k<rs.length
  ·obtain⟨b,o,c,af,ao,Z⟩:=Qhb HR.out (by omega)
   simp only[Value.slice.injEq,true_and] at af
   obtain⟨rfl,rfl⟩:=af
   obtain⟨u,hu,I⟩:=Z k hlt
   have cu:=cK A ao hu
   have ac:=I.below A
   obtain⟨ua,uc,rfl⟩:=Qer I
   have ad:=HL.out _ (List.getElem_mem hlt)
   have aa:=Qd2 _ _ wr ac (by omega) (by omega)
   have hsz:∀x∈rs[k],x.2.2.size<=maxLen:=by obtain⟨_,_,_,hs,_⟩:=I;exact hs
   have HC:=Hk aa
   have HS:=Hk (Ai hsz ad)
   clear aa Z hu I ac A z h hsz ad J
   generalize ab:rs[k]=rk at*
   have ah:=Hk ab
   clear ab
   go_wp2_with (first|(go_at_call 91;refine HC.out.mono ?_;rintro e w1 ⟨v1,rfl,F,B⟩;obtain⟨D,K,rfl⟩:=Qae F)|(at_builtin;refine wpList_append_own _ rfl _ _ 34 rfl w.heap.size 57 i0 (.slice none 0 0) 1 24 Tryz.underlying34 hi ar al aq rfl (by decide) _ _ _ rfl ((Qaf y.out.1 B).alloc _) ⟨w1.heap.size,0,none⟩ 1 1 [.slice D rk.length K] rfl rfl (QbG _ _ _ _ rfl) (QbZ _ _ _) ?c3 ?c4 ?c5 ?_))
   case c3=>unfold maxLen;omega
   case c4=>omega
   case c5=>have:=B.size;simp;omega
   intro v' w5 E j _
   have aG:=B.size
   have N:Below w.heap.size w w5:=((Qaa HX.out B).alloc (by omega) _).grown j (by simp;omega) (fun q hq=>(y.out.1.lt q hq).1)
   have O:=((Qaf y.out.1 B).alloc (.cells #[.slice D rk.length K] 57))
   have U:=((y.out.2.1.below B).below (Qab w1 (.cells #[.slice D rk.length K] 57))).grow O j
   have ae:=(F.alloc (.cells #[.slice D rk.length K] 57)).kept j (Qch (by decide) (F.alloc _) O)
   have M:=U.snoc (Qam (by omega) ae) HS.out.1
   have V:=QiP y.out.2.2 y.out.2.1 F (Nat.le_refl _)
   rw[show rs.take k++[rk]=rs.take (k+1) by rw[List.take_succ_eq_append_getElem hlt,ah.out]] at M
   have T:=Hk (Ai E (Ai M (Ai V N)))
   clear E j M N U ae O V
   go_wp2
   go_roundw
   case rel=>exact⟨k+1,_,by omega,by go_num,T.out.1,T.out.2.1,T.out.2.2.1,T.out.2.2.2⟩
   case measure=>simp[intOf];omega
  ·have ai:k=rs.length:=by omega
   subst ai
   rw[List.take_of_length_le (Nat.le_refl _)] at h
   clear y
   have y:=Hk (Ai z (Ai h J))
   clear z h A J
   go_wp2
   go_ret
   exact⟨_,us,rfl,y.out.1,y.out.2.1,y.out.2.2,HX.out⟩
theorem Qc0 (r:List Vl) (i:Nat) (x:Vl):Qai (r.set i x)=(((Qai r).set (i*3) (.int .i64 x.1)).set (i*3+1) (.int .i64 x.2.1)).set (i*3+2) (.string x.2.2)\/¬i<r.length:=by
 by_cases h:i<r.length
 ·left
  induction r generalizing i with
  |nil=>simp at h
  |cons a r ih=>
   cases i with
   |zero=>simp[Qai]
   |succ i=>
    have h':i<r.length:=by simpa using h
    have e:=ih i h'
    simp only[Qai,List.set_cons_succ,List.flatMap_cons] at e⊢
    rw[e,show(i+1)*3=i*3+3 by omega]
    simp[List.set_cons_succ]
 ·exact Or.inr h
theorem QlM {w:World} {B g c:Nat} {r:List Vl} (h:w.ownsRow B 24 3 (.slice (some ⟨g,0,none⟩) r.length c) r.length (Qai r)) (i:Nat) (x:Vl) (j:i<r.length):
 (((w.setCell ⟨g,i*3,none⟩ (.int .i64 x.1)).setCell ⟨g,i*3+1,none⟩ (.int .i64 x.2.1)).setCell ⟨g,i*3+2,none⟩ (.string x.2.2)).ownsRow B 24 3 (.slice (some ⟨g,0,none⟩) r.length c) r.length (Qai (r.set i x)):=by
 have e:=(Qc0 r i x).resolve_right (fun h=>h j)
 rw[e]
 exact(((h.stored _ _).1.stored _ _).1.stored _ _).1
theorem QgR {w:World} {B g n a b c:Nat} {x y z u:Value} {e:TypeId} {s:Nat} {o:List Value} (h:w.ownsRow B e s u n o) (j:u.ownBlock≠some g):(((w.setCell ⟨g,a,none⟩ x).setCell ⟨g,b,none⟩ y).setCell ⟨g,c,none⟩ z).ownsRow B e s u n o:=
 ownsRow_setCell_other (ownsRow_setCell_other (ownsRow_setCell_other h j _) j _) j _
theorem Qac.store {w:World} {B g c k:Nat} {us:List Value} {rs:List (List Vl)} (h:Qac w B us rs) (O:us.Pairwise Qbt) (T:k<rs.length) (q:us[k]? =some (.slice (some ⟨g,0,none⟩) rs[k].length c)) (i:Nat) (x:Vl) (N:i<rs[k].length) (M:x.2.2.size<=maxLen):
 Qac (((w.setCell ⟨g,i*3,none⟩ (.int .i64 x.1)).setCell ⟨g,i*3+1,none⟩ (.int .i64 x.2.1)).setCell ⟨g,i*3+2,none⟩ (.string x.2.2)) B us (rs.set k (rs[k].set i x)):=by
 have o:k<us.length:=by rw[h.1];exact T
 rw[List.getElem?_eq_getElem o] at q
 injection q with q
 refine⟨by simp[h.1],fun j hj hj'=>?_⟩
 have E:j<rs.length:=by simpa using hj'
 by_cases e:k=j
 ·subst e
  obtain⟨A,I⟩:=h.2 k hj E
  simp only[List.getElem_set_self,List.length_set]
  rw[q] at A⊢
  refine⟨QlM A i x N,fun y z=>?_⟩
  rcases List.mem_or_eq_of_mem_set z with z|z
  ·exact I y z
  ·rw[z];exact M
 ·obtain⟨A,I⟩:=h.2 j hj E
  simp only[List.getElem_set_ne e]
  refine⟨QgR A ?_,I⟩
  intro J
  have F:=List.pairwise_iff_getElem.1 O
  have D:us[k].ownBlock=some g:=by rw[q];rfl
  rcases Nat.lt_or_ge k j with K|U
  ·exact F k j o hj K g D J
  ·exact F j k hj o (by omega) g J D
def QdA (cs:List Cl) (j:Jb) (r:List Vl):Int:=Qhc j.op.data.toList (QaJ cs r j.left).2.1 (QaJ cs r j.right).2.1
def Qdk (cs:List Cl) (j:Jb) (at_:Nat) (r:List Vl):List Vl:=r.set at_ (1,QdA cs j r,⟨#[]⟩)
def Qga (cs:List Cl) (j:Jb) (at_:Nat) (rs:List (List Vl)) (k:Nat):List (List Vl):=(rs.take k).map (Qdk cs j at_)++rs.drop k
theorem Qmd (cs:List Cl) (j:Jb) (at_:Nat) (rs:List (List Vl)):Qga cs j at_ rs 0=rs:=by simp[Qga]
theorem QkN (cs:List Cl) (j:Jb) (at_:Nat) (rs:List (List Vl)):Qga cs j at_ rs rs.length=rs.map (Qdk cs j at_):=by simp[Qga]
theorem QdB (cs:List Cl) (j:Jb) (at_:Nat) (rs:List (List Vl)) (k:Nat):(Qga cs j at_ rs k).length=rs.length:=by
 rw[Qga,List.length_append,List.length_map,List.length_take,List.length_drop];omega
theorem QjS (cs:List Cl) (j:Jb) (at_:Nat) (rs:List (List Vl)) (k:Nat) (o:k<rs.length):(Qga cs j at_ rs k)[k]'(by rw[QdB];exact o)=rs[k]:=by
 have h:(Qga cs j at_ rs k)[k]? =some rs[k]:=by
  rw[Qga,List.getElem?_append_right (by rw[List.length_map,List.length_take];omega),List.length_map,List.length_take,show k-min k rs.length=0 by omega,List.getElem?_drop,Nat.add_zero,List.getElem?_eq_getElem o]
 rw[List.getElem?_eq_getElem (by rw[QdB];exact o)] at h
 exact Option.some.inj h
theorem QjT (cs:List Cl) (j:Jb) (at_:Nat) (rs:List (List Vl)) (k:Nat) (h:k<rs.length):(Qga cs j at_ rs k).set k (Qdk cs j at_ rs[k])=Qga cs j at_ rs (k+1):=by
 have o:((rs.take k).map (Qdk cs j at_)).length=k:=by rw[List.length_map,List.length_take];omega
 rw[Qga,List.set_append_right k _ (by omega),o,Nat.sub_self,List.drop_eq_getElem_cons h,List.set_cons_zero,Qga,List.take_succ_eq_append_getElem h,List.map_append]
 simp
theorem Ql4 {B:Nat} {w o j:World} (q:B<=w.heap.size) (h:Below B w o) (y:Below o.heap.size o j):Below B w j:=h.trans (y.mono (Nat.le_trans q h.size))
theorem QmH {W j:World} {N:Nat} {I E T J B A z y:Value} (o:Below W.heap.size W j) (h:W.cell? ⟨N,6,none⟩=some I/\W.cell? ⟨N,7,none⟩=some E/\W.cell? ⟨N,8,none⟩=some T/\W.cell? ⟨N,9,none⟩=some J/\W.cell? ⟨N,10,none⟩=some B/\W.cell? ⟨N,11,none⟩=some A/\W.cell? ⟨N,12,none⟩=some z/\W.cell? ⟨N,13,none⟩=some y):
 j.cell? ⟨N,6,none⟩=some I/\j.cell? ⟨N,7,none⟩=some E/\j.cell? ⟨N,8,none⟩=some T/\j.cell? ⟨N,9,none⟩=some J/\j.cell? ⟨N,10,none⟩=some B/\j.cell? ⟨N,11,none⟩=some A/\j.cell? ⟨N,12,none⟩=some z/\j.cell? ⟨N,13,none⟩=some y:=by
 obtain⟨F,U,Z,V,M,O,K,D⟩:=h
 have q:N<W.heap.size:=World.block_lt_of_cell? W _ F
 exact⟨cK o q F,cK o q U,cK o q Z,cK o q V,cK o q M,cK o q O,cK o q K,cK o q D⟩
def Z3 (w:World) (b:Nat):Prop:=w.cell? ⟨b,0,none⟩=some (.int .i64 0)/\w.cell? ⟨b,0+1,none⟩=some (.int .i64 0)/\w.cell? ⟨b,0+2,none⟩=some (.string ⟨#[]⟩)/\w.frozen? ⟨b,0,none⟩=false/\w.frozen? ⟨b,0+1,none⟩=false/\w.frozen? ⟨b,0+2,none⟩=false/\b<w.heap.size
theorem Z3.below {W q:World} {b:Nat} (h:Z3 W b) (j:Below W.heap.size W q):Z3 q b:=by
 obtain⟨y,B,D,E,A,z,o⟩:=h
 exact⟨cK j o y,cK j o B,cK j o D,(j.frozen (p:=⟨b,0,none⟩) o).trans E,(j.frozen (p:=⟨b,0+1,none⟩) o).trans A,(j.frozen (p:=⟨b,0+2,none⟩) o).trans z,Nat.lt_of_lt_of_le o j.size⟩
theorem Z3.alloc {W:World} {b:Nat} (h:Z3 W b) (o:Obj):Z3 (W.alloc o) b:=h.below (Qab _ _)
theorem Z3.drew {W:World} {b:Nat} (h:Z3 W b):Z3 W.drew b:=h.below (Below.refl _ _).drew
theorem Z3.new {W:World} {b:Nat} {t:TypeId} (h:W.heap.size=b):Z3 (W.alloc (.cells #[.int .i64 0,.int .i64 0,.string ⟨#[]⟩] t)) b:=by
 subst h
 exact⟨by simp,by simp,by simp,by simp,by simp,by simp,by simp⟩
theorem Z3.new1 {W:World} {o:Obj} {t:TypeId}:Z3 ((W.alloc o).alloc (.cells #[.int .i64 0,.int .i64 0,.string ⟨#[]⟩] t)) (W.heap.size+1):=Z3.new (by simp)
def VB (w:World) (b:Nat) (x:Vl):Prop:=w.cell? ⟨b,0,none⟩=some (.int .i64 x.1)/\w.cell? ⟨b,0+1,none⟩=some (.int .i64 x.2.1)/\w.cell? ⟨b,0+2,none⟩=some (.string x.2.2)/\b<w.heap.size
theorem VB.alloc {W:World} {b:Nat} {x:Vl} (h:VB W b x) (o:Obj):VB (W.alloc o) b x:=by
 obtain⟨y,z,A,q⟩:=h
 have j:=Qab W o
 exact⟨cK j q y,cK j q z,cK j q A,Nat.lt_of_lt_of_le q j.size⟩
theorem VB.new {W:World} {b:Nat} {t:TypeId} {x:Vl} (h:W.heap.size=b):VB (W.alloc (.cells #[.int .i64 x.1,.int .i64 x.2.1,.string x.2.2] t)) b x:=by
 subst h
 exact⟨by simp,by simp,by simp,by simp⟩
theorem VB.other {W:World} {b c:Nat} {x:Vl} {p q r:Value} (h:VB W b x) (E:c≠b):VB (((W.setCell ⟨c,0,none⟩ p).setCell ⟨c,1,none⟩ q).setCell ⟨c,2,none⟩ r) b x:=by
 obtain⟨z,B,D,A⟩:=h
 have j:∀(w:World) k o y,(w.setCell ⟨c,o,none⟩ y).cell? ⟨b,k,none⟩=w.cell? ⟨b,k,none⟩:=fun w k o y=>World.cell?_setCell_other _ _ _ _ (by intro e;simp only[Addr.mk.injEq] at e;omega)
 exact⟨by rw[j,j,j];exact z,by rw[j,j,j];exact B,by rw[j,j,j];exact D,by simpa using A⟩
theorem Z3.other {W:World} {b c:Nat} {p q r:Value} (h:Z3 W b) (J:c≠b):Z3 (((W.setCell ⟨c,0,none⟩ p).setCell ⟨c,1,none⟩ q).setCell ⟨c,2,none⟩ r) b:=by
 obtain⟨z,E,F,I,B,A,D⟩:=h
 have j:∀(w:World) k o y,(w.setCell ⟨c,o,none⟩ y).cell? ⟨b,k,none⟩=w.cell? ⟨b,k,none⟩:=fun w k o y=>World.cell?_setCell_other _ _ _ _ (by intro e;simp only[Addr.mk.injEq] at e;omega)
 exact⟨by rw[j,j,j];exact z,by rw[j,j,j];exact E,by rw[j,j,j];exact F,by simpa using I,by simpa using B,by simpa using A,by simpa using D⟩
theorem VB.stored {W:World} {b:Nat} {x:Vl} (h:Z3 W b):VB (((W.setCell ⟨b,0,none⟩ (.int .i64 x.1)).setCell ⟨b,1,none⟩ (.int .i64 x.2.1)).setCell ⟨b,2,none⟩ (.string x.2.2)) b x:=by
 obtain⟨j,q,y,B,A,z,o⟩:=h
 refine⟨?_,?_,?_,by simpa using o⟩
 ·rw[World.cell?_setCell_other _ _ _ _ (by intro e;simp at e),World.cell?_setCell_other _ _ _ _ (by intro e;simp at e)]
  exact World.cell?_setCell_same _ _ _ j
 ·rw[World.cell?_setCell_other _ _ _ _ (by intro e;simp at e)]
  exact World.cell?_setCell_same _ _ _ ((World.cell?_setCell_other _ _ _ _ (by intro e;simp at e)).trans q)
 ·exact World.cell?_setCell_same _ _ _ ((World.cell?_setCell_other _ _ _ _ (by intro e;simp at e)).trans ((World.cell?_setCell_other _ _ _ _ (by intro e;simp at e)).trans y))
theorem QjU {w:World} {B g c k at_:Nat} {us:List Value} {rs:List (List Vl)} {cs:List Cl} {j:Jb} (h:Qac w B us (Qga cs j at_ rs k)) (z:us.Pairwise Qbt) (o:k<rs.length) (y:us[k]? =some (.slice (some ⟨g,0,none⟩) rs[k].length c)) (q:at_<rs[k].length):
 Qac (((w.setCell ⟨g,at_*3,none⟩ (.int .i64 1)).setCell ⟨g,at_*3+1,none⟩ (.int .i64 (QdA cs j rs[k]))).setCell ⟨g,at_*3+2,none⟩ (.string ⟨#[]⟩)) B us (Qga cs j at_ rs (k+1)):=by
 have hk':k<(Qga cs j at_ rs k).length:=by rw[QdB];exact o
 have e:=QjS cs j at_ rs k o
 have:=h.store z hk' (g:=g) (c:=c) (by rw[e];exact y) at_ (1,QdA cs j rs[k],⟨#[]⟩) (by rw[e];exact q) (by show(0:Nat)<=maxLen;exact Nat.zero_le _)
 rw[e] at this
 rw[<-QjT cs j at_ rs k o]
 exact this
theorem Qaz.elsewhere {w:World} {N b:Nat} {j:Jb} {o:Nat} {x:Value} (h:Qaz w N j) (q:b≠N):Qaz (w.setCell ⟨b,o,none⟩ x) N j:=fun k v hk=>(World.cell?_setCell_other _ _ _ _ (by intro e;simp only[Addr.mk.injEq] at e;omega)).trans (h k v hk)
theorem QjV {w:World} {B k at_:Nat} {us:List Value} {rs:List (List Vl)} {cs:List Cl} {j:Jb} {u:Value} (h:Qac w B us (Qga cs j at_ rs k)) (z:k<rs.length) (o:us[k]? =some u):w.ownsRow B 24 3 u rs[k].length (Qai rs[k])/\∀x∈rs[k],x.2.2.size<=maxLen:=by
 have q:k<us.length:=(List.getElem?_eq_some_iff.1 o).1
 have y:=h.2 k q (by rw[QdB];exact z)
 rw[List.getElem?_eq_getElem q] at o
 injection o with o
 rw[o] at y
 simp only[QjS cs j at_ rs k z] at y
 exact y
theorem QgS (v vc:Value) (cs:List Cl) (rs:List (List Vl)) (us:List Value) (j:Jb) (nm:ByteArray) (cb co cc at_ B:Nat) (w:World) (hv:w.ownsRow B 57 1 v rs.length us) (hH:Qac w B us rs) (hp:us.Pairwise Qbt)
 (am:∀W,Below B w W->Qav W vc cs) (aH:j.cols=.slice (some ⟨cb,co,none⟩) 1 cc) (aU:∀W,Below B w W->W.cell? ⟨cb,co,none⟩=some (.string nm)) (c8:cb<w.heap.size) (aw:Qak cs nm.data.toList=some at_)
 (h1:1<=cs.length) (h6:cs.length<=100) (hl:∀r∈rs,r.length=cs.length) (c7:rs.length<=100) (aP:Qb3 cs j.left) (a5:Qb3 cs j.right) (I:∀r∈rs,Qau (QaJ cs r j.left).2.1/\Qau (QaJ cs r j.right).2.1) (hB:B<=w.heap.size):
 Calls Tryz.prog 68 #[.agg j.cells,vc,v] w fun e w'=>(((∀r∈rs,Qau (QdA cs j r))/\e=.returned (.tuple #[v,.nilIface])/\w'.ownsRow B 57 1 v rs.length us/\Qac w' B us (rs.map (Qdk cs j at_)))\/((∃r∈rs,¬Qau (QdA cs j r))/\e=.returned (.tuple #[.slice none 0 0,Qbp 2])))/\Below B w w':=by
 have cE:=Qaj aw
 have hP:=fun W (hW:Below B w W)=>place_any vc cs nm W (am W hW) h1 h6
 rw[show Qaq cs nm.data.toList=(at_:Int) by rw[Qaq,aw]] at hP
 have HP:=Hk hP
 have HC:=Hk am
 have HN:=Hk aU
 have HI:=Hk I
 have HL:=Hk hl
 have HO:=Hk (Ai aP a5)
 have bG:=Hk hp
 have ak:=Qbd w j 28
 have s0:=HN.out w (Below.refl _ _)
 have bB:=am w (Below.refl _ _)
 obtain⟨va,cX,rfl,-⟩:=bB
 obtain⟨ra,bp,rfl⟩:=Qae hv
 have HV:=Hk (Ai hv hH)
 unfold Jb.cells at ak⊢
 rw[aH] at ak⊢
 have a8:=Hk ak
 have aX:∀(q:Nat) (u:Value),us[q]? =some u->∀b:Nat,u.ownBlock=some b->b<w.heap.size:=fun q u hq b hb=>by
  obtain⟨J,rfl⟩:=List.getElem?_eq_some_iff.1 hq
  exact((hH.2 q J (by rw[<-hH.1];exact J)).1.lt b hb).2
 have bu:=Hk aX
 clear ak hP aw I hl aP a5 hp hv hH am aU aX
 go_enter Tryz.func68,Tryz.ntmps68
 go_wp2_with (go_at_call 54;refine(HP.out _ ((Qab _ _).mono hB)).mono ?_;rintro e w1 ⟨rfl,A⟩)
 have aD:Below B w w1:=Ql4 hB ((Qab w _).mono hB) A
 have aS:=a8.out.below A (by simp)
 have aR:=Qaf (HV.out.1.alloc _) A
 have a6:=(HV.out.2.below (Qab _ _)).below A
 have cU:w.heap.size<w1.heap.size:=by have:=A.size;simp at this;omega
 have H1:=Hk (Ai aS (Ai aR (Ai a6 aD)))
 clear A aD aS aR a6 a8 HV HP s0
 go_loopw [23] (fun i wr=>∃k:Nat,k<=rs.length/\i=.int .i64 k/\wr.ownsRow B 57 1 (.slice ra rs.length bp) rs.length us/\Qac wr B us (Qga cs j at_ rs k)/\(∀q (h:q<rs.length),q<k->Qau (QdA cs j rs[q]))/\Qaz wr w.heap.size j/\Below B w wr) (fun i _=>rs.length-(intOf i).toNat)
 case atStart=>exact⟨0,Nat.zero_le _,rfl,H1.out.2.1,by rw[Qmd];exact H1.out.2.2.1,fun q _ h=>absurd h (by omega),H1.out.1,H1.out.2.2.2⟩
 case round=>
  obtain⟨k,hk,rfl,D,y,M,E,V⟩:=hrel
  have HR:=Hk (Ai D (Ai y (Ai M (Ai E V))))
  by_cases J:k<rs.length
  ·obtain⟨g,gc,aZ,c6,cZ,aQ⟩:=QaY D (by omega)
   simp only[Value.slice.injEq,true_and] at aZ
   obtain⟨rfl,rfl⟩:=aZ
   have aO:k<us.length:=by rw[y.1,QdB];exact J
   obtain⟨u,hu⟩:∃u,us[k]? =some u:=⟨us[k],List.getElem?_eq_getElem aO⟩
   obtain⟨K,aa⟩:=QjV y J hu
   have ac:=HL.out _ (List.getElem_mem J)
   obtain⟨rb,uc,rfl,O,F,N⟩:=QaY K (by omega)
   have cu:=aQ k _ hu
   rw[Nat.zero_add] at cu
   have ax:=Qb7 K aa
   have hV:=fun(x:Ag) (hx:x=j.left\/x=j.right) W (hW:Below wr.heap.size wr W)=>Qeq _ _ cs rs[k] x W ((HC.out wr V).below hW) (ax.below hW) h6 ac (by rcases hx with rfl|rfl;exact HO.out.1;exact HO.out.2)
   have aj:=HI.out _ (List.getElem_mem J)
   have aC:=E.lt
   have ag:QdA cs j rs[k]=Qhc j.op.data.toList (QaJ cs rs[k] j.left).2.1 (QaJ cs rs[k] j.right).2.1:=rfl
   have j5:wr.cell? ⟨w.heap.size,5,none⟩=some (Value.string j.op):=E 5 _ rfl
   have j6:wr.cell? ⟨w.heap.size,6,none⟩=some (Value.string j.left.1):=E 6 _ rfl
   have j7:wr.cell? ⟨w.heap.size,7,none⟩=some (Value.int .i64 j.left.2.1):=E 7 _ rfl
   have j8:wr.cell? ⟨w.heap.size,8,none⟩=some (Value.int .i64 j.left.2.2.1):=E 8 _ rfl
   have j9:wr.cell? ⟨w.heap.size,9,none⟩=some (Value.string j.left.2.2.2):=E 9 _ rfl
   have bt:wr.cell? ⟨w.heap.size,10,none⟩=some (Value.string j.right.1):=E 10 _ rfl
   have bi:wr.cell? ⟨w.heap.size,11,none⟩=some (Value.int .i64 j.right.2.1):=E 11 _ rfl
   have bD:wr.cell? ⟨w.heap.size,12,none⟩=some (Value.int .i64 j.right.2.2.1):=E 12 _ rfl
   have br:wr.cell? ⟨w.heap.size,13,none⟩=some (Value.string j.right.2.2.2):=E 13 _ rfl
   have bA:=Hk hV
   have HU:=Hk (Ai hu (Ai K (Ai aa (Ai O N))))
   have aN:=Hk (Ai ac (Ai aj ag))
   have hrl':(at_:Int)<(rs[k].length:Int):=by omega
   clear hV hu K aa ax O N aQ D y M E V aj ag aO ac
   generalize ab:rs[k]=rk at*
   have aM:=Hk ab
   clear ab
   go_wp2_with fail
   go_cut [11,12] (fun p q wx=>∃b1 b2:Nat,p=.pointer (some ⟨b1,0,none⟩)/\q=.pointer (some ⟨b2,0,none⟩)/\VB wx b1 (QaJ cs rk j.left)/\VB wx b2 (QaJ cs rk j.right)/\Below wr.heap.size wr wx)
   case first=>
    go_region_held3 (fun w'=>w'.cell? ⟨w.heap.size,6,none⟩=some (Value.string j.left.1)/\w'.cell? ⟨w.heap.size,7,none⟩=some (Value.int .i64 j.left.2.1)/\w'.cell? ⟨w.heap.size,8,none⟩=some (Value.int .i64 j.left.2.2.1)/\w'.cell? ⟨w.heap.size,9,none⟩=some (Value.string j.left.2.2.2)/\w'.cell? ⟨w.heap.size,10,none⟩=some (Value.string j.right.1)/\w'.cell? ⟨w.heap.size,11,none⟩=some (Value.int .i64 j.right.2.1)/\w'.cell? ⟨w.heap.size,12,none⟩=some (Value.int .i64 j.right.2.2.1)/\w'.cell? ⟨w.heap.size,13,none⟩=some (Value.string j.right.2.2.2))
     (exact QmH (W:=wr) (by repeat' (first|with_reducible exact Z|with_reducible exact T|with_reducible exact Below.refl _ _|with_reducible refine Below.drew ?_|with_reducible refine Qad ?_ _|with_reducible refine Below.setCell ?_ ?_ _|(show wr.heap.size<=_;simp;done)|(show wr.heap.size<=_;simp;omega))) ⟨j6,j7,j8,j9,bt,bi,bD,br⟩)
     (first|(go_at_call 67;refine(bA.out _ (by first|exact Or.inl rfl|exact Or.inr rfl) _ (by repeat' (first|with_reducible exact Z|with_reducible exact T|with_reducible exact Below.refl _ _|with_reducible refine Below.drew ?_|with_reducible refine Qad ?_ _|with_reducible refine Below.setCell ?_ ?_ _|(show wr.heap.size<=_;simp;done)|(show wr.heap.size<=_;simp;omega)))).mono ?_;first|(have bs:=T;clear bs;rintro e cY ⟨rfl,U⟩;have Z:=Qaa (show Below wr.heap.size wr _ from(by repeat' (first|with_reducible exact Z|with_reducible exact T|with_reducible exact Below.refl _ _|with_reducible refine Below.drew ?_|with_reducible refine Qad ?_ _|with_reducible refine Below.setCell ?_ ?_ _|(show wr.heap.size<=_;simp;done)|(show wr.heap.size<=_;simp;omega)))) U;have cT:=Z.size;(first|(with_reducible have aE:=Z3.below ap U)|(with_reducible have aE:=Z3.below (Z3.alloc ap _) U)|skip);(first|(with_reducible have aW:=Z3.below a7 U)|skip);(first|(with_reducible have ar:=Z3.below (Z3.alloc (Z3.new (W:=aB) rfl) _) U;with_reducible have aY:=Z3.below (Z3.new1 (W:=aB)) U)|(with_reducible have ar:=Z3.below (Z3.new (W:=aB) rfl) U)|skip);(try obtain⟨b4,cg,bK,bS,cd,cn,bT⟩:=id aE);(try obtain⟨bU,cq,bN,ce,bP,cf,bV⟩:=id aW);(try obtain⟨ck,cl,bM,cx,cy,cp,cr⟩:=id ar);(try obtain⟨b7,bO,bQ,b5,ct,cw,bR⟩:=id aY))|(rintro e aB ⟨rfl,A⟩;have T:=Qaa (show Below wr.heap.size wr _ from(by repeat' (first|with_reducible exact Z|with_reducible exact T|with_reducible exact Below.refl _ _|with_reducible refine Below.drew ?_|with_reducible refine Qad ?_ _|with_reducible refine Below.setCell ?_ ?_ _|(show wr.heap.size<=_;simp;done)|(show wr.heap.size<=_;simp;omega)))) A;have cV:=T.size;(first|(with_reducible have ap:=Z3.below (Z3.drew (Z3.alloc (Z3.new (W:=wr) rfl) _)) A;with_reducible have a7:=Z3.below (Z3.drew (Z3.new1 (W:=wr))) A)|(with_reducible have ap:=Z3.below (Z3.drew (Z3.new (W:=wr) rfl)) A)|skip);(try obtain⟨cm,b8,bL,cv,ci,bX,ca⟩:=id ap);(try obtain⟨cj,bZ,bW,b9,bY,b6,ch⟩:=id a7))))
    all_goals go_wp2_with fail
    all_goals go_meet
    all_goals refine⟨_,_,rfl,rfl,?_,?_,(by repeat' (first|with_reducible exact Z|with_reducible exact T|with_reducible exact Below.refl _ _|with_reducible refine Below.drew ?_|with_reducible refine Qad ?_ _|with_reducible refine Below.setCell ?_ ?_ _|(show wr.heap.size<=_;simp;done)|(show wr.heap.size<=_;simp;omega)))⟩
    all_goals repeat' (first|with_reducible exact aE|with_reducible exact aW|with_reducible exact ar|with_reducible exact aY|with_reducible exact VB.new (by simp)|with_reducible refine VB.stored ?_|with_reducible refine VB.other ?_ ?_|with_reducible refine VB.alloc ?_ _|with_reducible refine Z3.alloc ?_ _|with_reducible refine Z3.other ?_ ?_|omega)
   case rest=>
    obtain⟨b1,b2,rfl,rfl,⟨-,c1,-,l1⟩,⟨-,c2,-,l2⟩,al⟩:=hcut
    have j5':=cK al aC j5
    have hjl':w.heap.size<wc.heap.size:=Nat.lt_of_lt_of_le aC al.size
    obtain⟨ac,⟨ha,hb⟩,ag⟩:=aN.out
    have aV:=Hk (fun W=>Qio j.op (QaJ cs rk j.left).2.1 (QaJ cs rk j.right).2.1 W ha hb)
    generalize bg:Qhc j.op.data.toList (QaJ cs rk j.left).2.1 (QaJ cs rk j.right).2.1=res at*
    have aT:=Hk al
    have a4:=Hk (Ai ac ag)
    clear al ac ag ha hb bg aN
    by_cases I:Qau res
    ·have aA:=Hk (fun W=>Qeu res W I)
     have ao:=Hk I
     clear I
     obtain⟨hu,K,aa,O,N⟩:=HU.out
     have av:at_<rk.length:=by omega
     obtain⟨v0,v1,v2⟩:=Qcx rk at_ av
     have e0:=N _ _ v0
     have e1:=N _ _ v1
     have e2:=N _ _ v2
     rw[Nat.zero_add] at e0 e1 e2
     have fz:=fun o=>K.frozenAt o
     clear v0 v1 v2 hu K aa N
     go_wp2_with (first|(go_at_call 94;refine(aV.out _).mono ?_;rintro e w5 ⟨rfl,rfl⟩)|(go_at_call 93;refine(aA.out _).mono ?_;rintro e w6 ⟨rfl,ay⟩;have z:=Qaa aT.out ay;have d0:=cK z F e0;have d1:=cK z F e1;have d2:=cK z F e2;have f0:=(z.frozen (p:=⟨rb,at_*3,none⟩) F).trans (fz _);have f1:=(z.frozen (p:=⟨rb,at_*3+1,none⟩) F).trans (fz _);have f2:=(z.frozen (p:=⟨rb,at_*3+2,none⟩) F).trans (fz _);have cG:=Nat.lt_of_lt_of_le F z.size))
     go_roundw
     case rel=>
      obtain⟨D,y,M,E,V⟩:=HR.out
      obtain⟨hu,K,aa,O,N⟩:=HU.out
      have ah:rb≠w.heap.size:=by have:=bu.out _ _ hu rb rfl;omega
      have ai:=a4.out.2
      have ab:=aM.out
      subst ab
      rw[<-ai] at ao⊢
      refine⟨k+1,by omega,by go_num,?_,?_,?_,?_,?_⟩
      ·exact(QgR (Qaf D z) ((Qch (by decide) D K).resolve_left (by simp[Value.ownBlock]))).alloc _
      ·exact(QjU (y.below z) bG.out J hu av).below (Qab _ _)
      ·intro q hq cW
       rcases Nat.lt_or_ge q k with h|h
       ·exact M q hq h
       ·obtain rfl:q=k:=by omega
        exact ao.out
      ·exact(((((E.below z aC).elsewhere ah).elsewhere ah).elsewhere ah)).below (Qab _ _) (by have:=z.size;simp;omega)
      ·exact Ql4 hB ((((Ql4 hB V z).setCell O _).setCell O _).setCell O _) (Qab _ _)
     case measure=>simp[intOf];omega
    ·have au:=fun W=>QdK res W I
     rw[Qa1 (by decide)] at au
     have aA:=Hk au
     have ao:=Hk I
     clear I au
     go_wp2_with (first|(go_at_call 94;refine(aV.out _).mono ?_;rintro e w5 ⟨rfl,rfl⟩)|(go_at_call 93;refine(aA.out _).mono ?_;rintro e w6 ⟨rfl,ay⟩))
     go_ret2
     have ai:=a4.out.2
     have ab:=aM.out
     subst ab
     refine⟨Or.inr ⟨⟨rs[k],List.getElem_mem J,?_⟩,rfl⟩,Ql4 hB (Ql4 hB (Ql4 hB HR.out.2.2.2.2 aT.out) ay) (Qab _ _)⟩
     rw[ai]
     exact ao.out
  ·have bn:k=rs.length:=by omega
   subst bn
   rw[QkN] at y
   have az:=Hk (Ai D (Ai y V))
   have a9:=Hk M
   clear D y M E V HR
   go_wp2
   go_ret2
   refine⟨Or.inl ⟨?_,rfl,az.out.1,az.out.2.1⟩,az.out.2.2⟩
   intro r hr
   obtain⟨q,hq,rfl⟩:=List.mem_iff_getElem.1 hr
   exact a9.out q hq hq
end Go.Proofs.YtofidnijfnhpaaaGreatDoor
