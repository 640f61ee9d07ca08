import Derived.Test.YtjlgejennghhlaaGreatDoorR01
import Derived.Test.YtjlgejennghhlaaGreatDoorR06
import Derived.Test.YtjlgejennghhlaaGreatDoorR14
set_option linter.unusedSimpArgs false
set_option linter.unusedVariables false
set_option linter.unusedSectionVars false
set_option maxRecDepth 1000000
set_option maxHeartbeats 16000000
namespace Go.Proofs.YtjlgejennghhlaaGreatDoor
open Go.RowKit
theorem QgX (a b:UInt8) (x y:List UInt8):Op.bytesLess (a::x) (b::y)=true↔a<b\/(a=b/\Op.bytesLess x y=true):=by simp[Op.bytesLess]
theorem Ql5:∀(l m:List UInt8),Op.bytesLess l m=true->Op.bytesLess m l=true->False
 |[],[],h,_=>by simp[Op.bytesLess] at h
 |[],_::_,_,h=>by simp[Op.bytesLess] at h
 |_::_,[],h,_=>by simp[Op.bytesLess] at h
 |c::r,d::q,h,k=>by
  rw[QgX] at h k;rcases h with h|⟨rfl,h⟩
  ·rcases k with k|⟨rfl,k⟩
   ·exact absurd (UInt8.lt_trans h k) (UInt8.lt_irrefl _)
   ·exact UInt8.lt_irrefl _ h
  ·rcases k with k|⟨-,k⟩
   ·exact UInt8.lt_irrefl _ k
   ·exact Ql5 r q h k
theorem Qph:∀(l m:List UInt8),Op.bytesLess l m=false->Op.bytesLess m l=false->l=m
 |[],[],_,_=>rfl
 |[],_::_,h,_=>by simp[Op.bytesLess] at h
 |_::_,[],_,h=>by simp[Op.bytesLess] at h
 |c::r,d::q,h,k=>by
  have h':¬(c<d\/(c=d/\Op.bytesLess r q=true)):=fun e=>by rw[(QgX c d r q).2 e] at h;simp at h
  have k':¬(d<c\/(d=c/\Op.bytesLess q r=true)):=fun e=>by rw[(QgX d c q r).2 e] at k;simp at k
  have y:c=d:=by
   apply UInt8.toNat_inj.1;have D:¬c.toNat<d.toNat:=fun e=>h' (Or.inl (UInt8.lt_iff_toNat_lt.2 e))
   have E:¬d.toNat<c.toNat:=fun e=>k' (Or.inl (UInt8.lt_iff_toNat_lt.2 e))
   omega
  subst y;rw[Qph r q (Qcc fun e=>h' (Or.inr ⟨rfl,e⟩)) (Qcc fun e=>k' (Or.inr ⟨rfl,e⟩))]
theorem Qjy:∀(l m n:List UInt8),Op.bytesLess l m=true->Op.bytesLess m n=true->Op.bytesLess l n=true
 |[],[],_,h,_=>by simp[Op.bytesLess] at h
 |_::_,[],_,h,_=>by simp[Op.bytesLess] at h
 |_,_::_,[],_,h=>by simp[Op.bytesLess] at h
 |[],_::_,_::_,_,_=>by simp[Op.bytesLess]
 |a::x,b::y,c::z,h,k=>by
  rw[QgX] at h k⊢;rcases h with h|⟨rfl,h⟩
  ·rcases k with k|⟨rfl,k⟩
   ·exact Or.inl (UInt8.lt_trans h k)
   ·exact Or.inl h
  ·rcases k with k|⟨rfl,k⟩
   ·exact Or.inl k
   ·exact Or.inr ⟨rfl,Qjy x y z h k⟩
theorem Ql6 {k n k' E:Int} {l F:List UInt8} (h:Qht k n l k' E F=true):Qht k' E F k n l=false:=by
 apply Qcc;intro y;unfold Qht at h y
 by_cases e:k=k'
 ·subst e;simp at h y;split at h
  ·rename_i D;simp[D] at y;omega
  ·rename_i D;simp[D] at y;exact Ql5 _ _ h y
 ·have e':¬k'=k:=fun x=>e x.symm
  simp[e] at h;simp[e'] at y;omega
theorem Ql7 {l m n:List UInt8} (h:Op.bytesLess l m=false) (y:Op.bytesLess m n=false):Op.bytesLess l n=false:=by
 cases e:Op.bytesLess l n with
 |false=>rfl
 |true=>
  cases e2:Op.bytesLess m l with
  |true=>exact absurd (Qjy _ _ _ e2 e) (by rw[y];decide)
  |false=>
   have:=Qph _ _ h e2;subst this;exact absurd e (by rw[y];decide)
theorem Qre:Stb.Ord Qb0 where
 asymm:=fun a b h=>Ql6 h
 ntrans:=fun a b c h h'=>by
  unfold Qb0 Qht at*
  by_cases e1:a.1=b.1
  ·by_cases e2:b.1=c.1
   ·have y:a.1=c.1:=e1.trans e2;rw[if_neg (by simp[e1])] at h;rw[if_neg (by simp[e2])] at h';rw[if_neg (by simp[y])]
    by_cases e4:a.1=1
    ·rw[if_pos (by simp[e4])] at h⊢;rw[if_pos (by simp[<-e1,e4])] at h';simp only[decide_eq_false_iff_not,Int.not_lt] at*;omega
    ·rw[if_neg (by simp[e4])] at h⊢;rw[if_neg (by simp[<-e1,e4])] at h';exact Ql7 h h'
   ·rw[if_pos (by simp[e2])] at h';rw[if_pos (by simp[e1,e2])];simp only[decide_eq_false_iff_not,Int.not_lt] at*;omega
  ·rw[if_pos (by simp[e1])] at h;simp only[decide_eq_false_iff_not,Int.not_lt] at h
   by_cases e2:b.1=c.1
   ·rw[if_pos (by simp;omega)];simp only[decide_eq_false_iff_not,Int.not_lt];omega
   ·rw[if_pos (by simp[e2])] at h';simp only[decide_eq_false_iff_not,Int.not_lt] at h';rw[if_pos (by simp;omega)];simp only[decide_eq_false_iff_not,Int.not_lt];omega
def vAt (r:List Vl) (k:Nat):Vl:=(r[k]?).getD (0,0,⟨#[]⟩)
def QdG:List Nat->List Vl->List Vl->Int
 |[],_,_=>0
 |k::ks,x,y=>if Qb0 (vAt x k) (vAt y k)=true then-1 else if Qb0 (vAt y k) (vAt x k)=true then 1 else QdG ks x y
def ltR (ks:List Nat) (x y:List Vl):Bool:=decide (QdG ks x y<0)
theorem QhQ:∀(D:List Nat) (x y:List Vl),QdG D x y<0->¬QdG D y x<0
 |[],_,_,h=>absurd h (by simp[QdG])
 |k::D,x,y,h=>by
  rw[QdG] at h⊢
  by_cases h1:Qb0 (vAt x k) (vAt y k)=true
  ·rw[if_neg (by rw[Qre.asymm _ _ h1];decide),if_pos h1];decide
  ·rw[if_neg h1] at h
   by_cases h2:Qb0 (vAt y k) (vAt x k)=true
   ·rw[if_pos h2] at h;exact absurd h (by decide)
   ·rw[if_neg h2] at h;rw[if_neg h2,if_neg h1];exact QhQ D x y h
theorem QfD:∀(D:List Nat) (x y z:List Vl),¬QdG D x y<0->¬QdG D y z<0->¬QdG D x z<0
 |[],_,_,_,_,_=>by simp[QdG]
 |k::D,x,y,z,h,h'=>by
  rw[QdG] at h h'⊢
  by_cases h1:Qb0 (vAt x k) (vAt y k)=true
  ·rw[if_pos h1] at h;exact absurd (by decide) h
  by_cases h2:Qb0 (vAt y k) (vAt z k)=true
  ·rw[if_pos h2] at h';exact absurd (by decide) h'
  have F:=Qcc h1;have E:=Qcc h2;rw[if_neg (by rw[Qre.ntrans _ _ _ F E];decide)]
  by_cases h3:Qb0 (vAt z k) (vAt x k)=true
  ·rw[if_pos h3];decide
  ·rw[if_neg h3];have I:=Qcc h3;have H:¬Qb0 (vAt y k) (vAt x k)=true:=by
    intro e;exact h3 (Qre.le_lt E e)
   have h5:¬Qb0 (vAt z k) (vAt y k)=true:=by
    intro e;exact h3 (Qre.lt_le e F)
   rw[if_neg h1,if_neg H] at h;rw[if_neg h2,if_neg h5] at h';exact QfD D x y z h h'
theorem Qjz (D:List Nat):Stb.Ord (ltR D) where
 asymm:=fun x y h=>decide_eq_false (QhQ D x y (of_decide_eq_true h))
 ntrans:=fun x y z h h'=>decide_eq_false (QfD D x y z (of_decide_eq_false h) (of_decide_eq_false h'))
open Go.Sort in
theorem Qdr (a b:Vl) (w:World):
 Calls Tryz.prog 170 #[.agg #[.int .i64 a.1,.int .i64 a.2.1,.string a.2.2],.agg #[.int .i64 b.1,.int .i64 b.2.1,.string b.2.2]] w fun e w'=>e=.returned (.bool (Qb0 a b))/\∃q os',w'=grow (w.drewN q) os':=by
 obtain⟨k,n,s⟩:=a;obtain⟨k',D,E⟩:=b;have h:∀o o':Obj,∃q os',(w.alloc o).alloc o'=grow (w.drewN q) os':=fun o o'=>⟨0,#[o]++#[o'],by rw[alloc_eq_grow,alloc_eq_grow,grow_grow];rfl⟩
 have y:=Hk h;clear h;unfold Qb0
 dsimp only
 go_enter Tryz.func170,Tryz.ntmps170;go_wp2
 all_goals go_ret
 all_goals refine⟨ret_bool ?_,y.out _ _⟩
 all_goals simp_all [Qht,ByteArray.toList_eq]
end Go.Proofs.YtjlgejennghhlaaGreatDoor
namespace Go.Proofs.YtjlgejennghhlaaGreatDoor
open Go.RowKit
open Go.Sort (grow)
theorem Qdh {r:List Vl} {k:Nat} (h:k<r.length):vAt r k=r[k]:=by unfold vAt;rw[List.getElem?_eq_getElem h];rfl
theorem Qgz (w:World) (q:Nat) (os:Array Obj):(grow (w.drewN q) os).heap.size=w.heap.size+os.size:=by rw[Go.Sort.size_grow];rfl
theorem QfE (E xo xc D yo yc ab ao ac pb:Nat) (x y:List Vl) (h:List Nat) (w:World) (ak:E<w.heap.size) (hx:QaS w E xo x) (ah:D<w.heap.size) (hy:QaS w D yo y) (aH:ab<w.heap.size) (hk:QcE w ab ao h) (aZ:pb<w.heap.size) (hp:w.cell? ⟨pb,0,none⟩=some (.slice (some ⟨ab,ao,none⟩) h.length ac)) (F:∀k∈h,k<x.length) (J:∀k∈h,k<y.length) (h6:h.length<=100) (aY:x.length<=100) (a1:y.length<=100):
 Calls Tryz.prog 175 #[.slice (some ⟨E,xo,none⟩) x.length xc,.slice (some ⟨D,yo,none⟩) y.length yc,.pointer (some ⟨pb,0,none⟩)] w fun e w'=>e=.returned (.int .i64 (QdG h x y))/\∃q os',w'=grow (w.drewN q) os':=by
 have aO:Tryz.prog.follows .mixedOrders=true:=by kernel_rfl
 have HX:Aside (QaS w E xo x/\QaS w D yo y/\QcE w ab ao h/\(∀k∈h,k<x.length)/\∀k∈h,k<y.length):=⟨hx,hy,hk,F,J⟩;have H0:Aside (∃q os,w=grow (w.drewN q) os):=⟨0,#[],by rw[Go.Sort.grow_empty];rfl⟩;clear hx hy hk F J;go_enter Tryz.func175,Tryz.ntmps175;go_wp2
 go_loopg [10] h.length (fun g1 vi wr=>∃(k:Nat),vi=.int .i64 k/\k<=h.length/\h.length-k<=g1/\Aside (∃q os,wr=grow (w.drewN q) os)/\Aside (QdG h x y=QdG (h.drop k) x y))
 case atStart=>exact⟨0,rfl,Nat.zero_le _,by omega,H0,(show QdG h x y=QdG (h.drop 0) x y by rw[List.drop_zero])⟩
 case round=>
  clear H0;obtain⟨k,rfl,a0,hg,HW,HC⟩:=hrel;have aX:w.heap.size<=wr.heap.size:=by obtain⟨q,os,e⟩:=HW.out;rw[e,Qgz];omega
  have N:Aside (∀(a:Addr) (v:Value),a.block<w.heap.size->w.cell? a=some v->wr.cell? a=some v):=by
   intro a v h1 h2;obtain⟨q,os,e⟩:=HW.out;rw[e];exact cell_grown h1 h2 q os
  by_cases hlt:k<h.length
  ·obtain⟨p,M⟩:∃p,h[k]=p:=⟨_,rfl⟩;obtain⟨hx,hy,aB,F,J⟩:=HX.out;have az:p<x.length:=M▸F _ (List.getElem_mem hlt);have aA:p<y.length:=M▸J _ (List.getElem_mem hlt);have c0:wr.cell? ⟨ab,ao+k,none⟩=some (.int .i64 p):=N.out _ _ aH (by have:=aB k hlt;rw[M] at this;exact this);obtain⟨e0,e1,e2⟩:=hx p az;obtain⟨f0,f1,f2⟩:=hy p aA;have HR:Aside (QdG (h.drop k) x y=if Qb0 x[p] y[p]=true then-1 else if Qb0 y[p] x[p]=true then 1 else QdG (h.drop (k+1)) x y):=(show QdG (h.drop k) x y=_ by rw[List.drop_eq_getElem_cons hlt,QdG,M,Qdh az,Qdh aA]);generalize x[p]=a at*;generalize y[p]=b at*;have x0:=N.out _ _ (by exact ak) e0;have x1:=N.out _ _ (by exact ak) e1;have x2:=N.out _ _ (by exact ak) e2;have y0:=N.out _ _ (by exact ah) f0;have y1:=N.out _ _ (by exact ah) f1;have y2:=N.out _ _ (by exact ah) f2;have X0:=cell_grown (by show E<_;omega) x0;have X1:=cell_grown (by show E<_;omega) x1;have X2:=cell_grown (by show E<_;omega) x2;have Z:=cell_grown (by show D<_;omega) y0;have V:=cell_grown (by show D<_;omega) y1;have U:=cell_grown (by show D<_;omega) y2;clear hx hy aB F J e0 e1 e2 f0 f1 f2 x0 x1 x2 y0 y1 y2 M
   cases hl1:Qb0 a b with
   |true=>
    have HV:Aside (QdG h x y= -1):=(show QdG h x y= -1 by rw[HC.out,HR.out,if_pos hl1]);have H:Aside (∀W:World,Calls Tryz.prog 170 #[.agg #[.int .i64 a.1,.int .i64 a.2.1,.string a.2.2],.agg #[.int .i64 b.1,.int .i64 b.2.1,.string b.2.2]] W fun e w'=>e=.returned (.bool true)/\∃q os',w'=grow (W.drewN q) os'):=fun W=>by have:=Qdr a b W;rw[hl1] at this;exact this
    clear hl1 HR HC;go_wp2_with fail
    go_quiet_grown (first|(go_at_call 170;refine Calls.grown_of (H.out _)))
    have K:Aside (∃q os,grow (wr.drewN nq) osq=grow (w.drewN q) os):=by
     obtain⟨q,os,e⟩:=HW.out;rw[e];exact⟨q+nq,os++osq,by show grow (grow ((w.drewN q).drewN nq) os) osq=_;rw[Go.Sort.grow_grow,World.drewN_drewN]⟩
    clear X0 X1 X2 Z V U c0;generalize grow (wr.drewN nq) osq=w2 at K⊢;go_wp2;go_ret;exact⟨by rw[HV.out];rfl,K.out⟩
   |false=>
    have H:Aside (∀W:World,Calls Tryz.prog 170 #[.agg #[.int .i64 a.1,.int .i64 a.2.1,.string a.2.2],.agg #[.int .i64 b.1,.int .i64 b.2.1,.string b.2.2]] W fun e w'=>e=.returned (.bool false)/\∃q os',w'=grow (W.drewN q) os'):=fun W=>by have:=Qdr a b W;rw[hl1] at this;exact this
    have O:Aside (QdG h x y=if Qb0 b a=true then 1 else QdG (h.drop (k+1)) x y):=(show QdG h x y=_ by rw[HC.out,HR.out,if_neg (by rw[hl1];decide)]);clear hl1 HR HC;go_wp2_with fail
    go_quiet_grown (first|(go_at_call 170;refine Calls.grown_of (H.out _)))
    have K:Aside (∃q os,grow (wr.drewN nq) osq=grow (w.drewN q) os):=by
     obtain⟨q,os,e⟩:=HW.out;rw[e];exact⟨q+nq,os++osq,by show grow (grow ((w.drewN q).drewN nq) os) osq=_;rw[Go.Sort.grow_grow,World.drewN_drewN]⟩
    have aR:w.heap.size<=(grow (wr.drewN nq) osq).heap.size:=by rw[Qgz];omega
    have x0:=X0 nq osq;have x1:=X1 nq osq;have x2:=X2 nq osq;have y0:=Z nq osq;have y1:=V nq osq;have y2:=U nq osq;clear X0 X1 X2 Z V U c0 H;generalize grow (wr.drewN nq) osq=w2 at*;have X0:=cell_grown (by show E<_;omega) x0;have X1:=cell_grown (by show E<_;omega) x1;have X2:=cell_grown (by show E<_;omega) x2;have Z:=cell_grown (by show D<_;omega) y0;have V:=cell_grown (by show D<_;omega) y1;have U:=cell_grown (by show D<_;omega) y2;clear x0 x1 x2 y0 y1 y2 nq osq
    cases hl2:Qb0 b a with
    |true=>
     have HV:Aside (QdG h x y=1):=(show QdG h x y=1 by rw[O.out,if_pos hl2]);have H:Aside (∀W:World,Calls Tryz.prog 170 #[.agg #[.int .i64 b.1,.int .i64 b.2.1,.string b.2.2],.agg #[.int .i64 a.1,.int .i64 a.2.1,.string a.2.2]] W fun e w'=>e=.returned (.bool true)/\∃q os',w'=grow (W.drewN q) os'):=fun W=>by have:=Qdr b a W;rw[hl2] at this;exact this
     clear hl2 O;go_wp2_with fail
     go_quiet_grown (first|(go_at_call 170;refine Calls.grown_of (H.out _)))
     have I:Aside (∃q os,grow (w2.drewN nq) osq=grow (w.drewN q) os):=by
      obtain⟨q,os,e⟩:=K.out;rw[e];exact⟨q+nq,os++osq,by show grow (grow ((w.drewN q).drewN nq) os) osq=_;rw[Go.Sort.grow_grow,World.drewN_drewN]⟩
     clear X0 X1 X2 Z V U;generalize grow (w2.drewN nq) osq=w3 at I⊢;go_wp2;go_ret;exact⟨by rw[HV.out];rfl,I.out⟩
    |false=>
     have HV:Aside (QdG h x y=QdG (h.drop (k+1)) x y):=(show QdG h x y=_ by rw[O.out,if_neg (by rw[hl2];decide)]);have H:Aside (∀W:World,Calls Tryz.prog 170 #[.agg #[.int .i64 b.1,.int .i64 b.2.1,.string b.2.2],.agg #[.int .i64 a.1,.int .i64 a.2.1,.string a.2.2]] W fun e w'=>e=.returned (.bool false)/\∃q os',w'=grow (W.drewN q) os'):=fun W=>by have:=Qdr b a W;rw[hl2] at this;exact this
     clear hl2 O;go_wp2_with fail
     go_quiet_grown (first|(go_at_call 170;refine Calls.grown_of (H.out _)))
     have I:Aside (∃q os,grow (w2.drewN nq) osq=grow (w.drewN q) os):=by
      obtain⟨q,os,e⟩:=K.out;rw[e];exact⟨q+nq,os++osq,by show grow (grow ((w.drewN q).drewN nq) os) osq=_;rw[Go.Sort.grow_grow,World.drewN_drewN]⟩
     clear X0 X1 X2 Z V U;generalize grow (w2.drewN nq) osq=w3 at I⊢;go_wp2
     go_roundg (h.length-(k+1))
     case measure=>omega
     case rel=>exact⟨k+1,by go_num,by omega,Nat.le_refl _,I,HV⟩
  ·have a2:k=h.length:=by omega
   have aP:¬(k:Int)<(h.length:Int):=by omega
   go_wp2;go_ret;refine⟨?_,HW.out⟩;rw[HC.out,List.drop_eq_nil_of_le (by omega)];rfl
end Go.Proofs.YtjlgejennghhlaaGreatDoor
namespace Go.Proofs.YtjlgejennghhlaaGreatDoor
open Go.RowKit
open Go.Sort (grow putRow putCells Holds)
namespace Stb
theorem eqv_cong {α:Type} {lt:α->α->Bool} (E:Ord lt) {x y:α} (h:eqv lt x y=true) (z:α):eqv lt x z=eqv lt y z:=by
 simp only[eqv,Bool.and_eq_true,Bool.not_eq_true'] at h;have one:∀a b c:α,lt a b=false->lt b a=false->eqv lt a c=true->eqv lt b c=true:=by
  intro a b c F H D;simp only[eqv,Bool.and_eq_true,Bool.not_eq_true'] at D⊢;exact⟨E.ntrans _ _ _ H D.1,E.ntrans _ _ _ D.2 F⟩
 cases e:eqv lt y z with
 |true=>exact one y x z h.2 h.1 e
 |false=>
  cases e2:eqv lt x z with
  |false=>rfl
  |true=>exact absurd (one x y z h.1 h.2 e2) (by rw[e];decide)
theorem Same.map {α β:Type} {lt:β->β->Bool} (E:Ord lt) (f:α->β) {l D:List α} (h:Same (fun a b=>lt (f a) (f b)) l D):Same lt (l.map f) (D.map f):=by
 have ho':Ord (fun a b=>lt (f a) (f b)):=⟨fun a b=>E.asymm _ _,fun a b c=>E.ntrans _ _ _⟩;intro x;rw[List.filter_map,List.filter_map]
 congr 1
 by_cases hx:∃i∈l,eqv lt x (f i)=true
 ·obtain⟨i,-,y⟩:=hx;have e:(eqv lt x∘f)=eqv (fun a b=>lt (f a) (f b)) i:=by
   funext j
   exact eqv_cong E y (f j)
  rw[e];exact h i
 ·have F:∀q:List α,(∀i∈q,i∈l)->q.filter (eqv lt x∘f)=[]:=fun q hq=>by
   rw[List.filter_eq_nil_iff];intro i y he;exact hx ⟨i,hq i y,he⟩
  rw[F l (fun i y=>y),F D (fun i y=>(h.mem ho').2 y)]
theorem Sorted.map {α β:Type} {lt:β->β->Bool} (f:α->β) {l:List α} (h:Sorted (fun a b=>lt (f a) (f b)) l):Sorted lt (l.map f):=List.pairwise_map.2 h
end Stb
section
variable {α:Type} [Inhabited α] {enc:α->Value}
theorem heap_srt {w:World} {g n:Nat} {os:Array Obj} {h:Array Value} {e:TypeId} {D:Nat×Nat} (d:Array α) (y:w.heap[g]? =some (.cells h e D)):
 (grow (putRow enc (Go.Sort.ahead w n) g 0 d) os).heap[g]? =some (.cells (putCells enc 0 d h) e D):=by
 have E:g<w.heap.size:=(Array.getElem?_eq_some_iff.1 y).1;rw[Go.Sort.heap_grow_old _ _ (by simpa using E)];simp[putRow,Go.Sort.mapBlock,Go.Sort.ahead,Array.getElem?_modify,y,Go.Sort.onCells]
theorem grown_srt {w:World} {g n:Nat} {os:Array Obj} (d:Array α):w.grownBy (grow (putRow enc (Go.Sort.ahead w n) g 0 d) os) (some g):=by
 refine⟨rfl,rfl,rfl,by simp,fun k hk hne=>?_⟩;rw[Go.Sort.heap_grow_old _ _ (by simpa using hk)];have:g≠k:=fun e=>hne (by rw[e])
 simp[putRow,Go.Sort.mapBlock,Go.Sort.ahead,Array.getElem?_modify,this]
theorem take_srt (y:Array Value) (ts:List α) (h:ts.length<=y.size):(putCells enc 0 ts.toArray y).toList.take ts.length=ts.map enc:=by
 apply List.ext_getElem?;intro j
 by_cases hj:j<ts.length
 ·rw[List.getElem?_take_of_lt hj,Array.getElem?_toList];simp[putCells,hj,show j<y.size by omega]
 ·rw[List.getElem?_take_eq_none (by omega),List.getElem?_eq_none (by simp;omega)]
theorem owns_srt {w:World} {base g h n k:Nat} {e:TypeId} {os:Array Obj} {y:Array Value} {ts:List α} (E:ts.length=k) (D:base<=g) (J:w.heap[g]? =some (.cells y e (0,0)))
 (H:k<=h) (F:h<=maxLen) (I:y.size=h*1):
 (grow (putRow enc (Go.Sort.ahead w n) g 0 ts.toArray) os).ownsRow base e 1 (.slice (some ⟨g,0,none⟩) k h) k (ts.map enc):=
 ⟨by simp[E],.inr ⟨g,h,_,rfl,D,heap_srt _ J,H,F,by simp[putCells,I],by rw[Nat.mul_one,<-E];exact take_srt y ts (by omega)⟩⟩
end
theorem Qn8 (h y:Value) (w:World):Calls Tryz.prog 201 #[h,.int .i64 0,.int .i64 0,y] w fun e w'=>e=.returned (.tuple #[])/\w'=w:=by
 go_enter Tryz.func201,Tryz.ntmps201;go_wp2
 go_loopg [8] 0 (fun g1 vi wr=>vi=.int .i64 1/\wr=w)
 case atStart=>exact⟨rfl,rfl⟩
 case round=>
  obtain⟨rfl,rfl⟩:=hrel;go_wp2
  go_end0
  exact⟨rfl,rfl⟩
theorem QiZ (h D:Value) (w:World):Calls Tryz.prog 193 #[h,.int .i64 0,D] w fun e w'=>e=.returned (.tuple #[])/\w'=w:=by
 go_enter Tryz.func193,Tryz.ntmps193;go_wp2
 go_loopg [7,8] 0 (fun g1 va vb wr=>va=.int .i64 0/\vb=.int .i64 20/\wr=w)
 case atStart=>exact⟨rfl,rfl,rfl⟩
 case round=>
  obtain⟨rfl,rfl,rfl⟩:=hrel;go_wp2_with (go_at_call 201;refine(Qn8 _ _ _).mono ?_;rintro e y ⟨rfl,rfl⟩)
  go_loopg [6] 0 (fun g1 va wr'=>va=.int .i64 20/\wr'=y)
  case atStart=>exact⟨rfl,rfl⟩
  case round=>
   obtain⟨rfl,rfl⟩:=hrel;go_wp2
   go_end0
   exact⟨rfl,rfl⟩
theorem Qd4 (a:Option Addr) (c:Nat) (h:Value) (w:World):Calls Tryz.prog 174 #[.slice a 0 c,h] w fun e w'=>e=.returned (.tuple #[])/\w'=w:=by
 go_enter Tryz.func174,Tryz.ntmps174;go_wp2_with (go_at_call 193;fail);refine(QiZ _ _ _).mono ?_;rintro e y ⟨rfl,rfl⟩;go_wp2
 go_end0
 exact⟨rfl,rfl⟩
end Go.Proofs.YtjlgejennghhlaaGreatDoor
namespace Go.Proofs.YtjlgejennghhlaaGreatDoor
open Go.RowKit
open Go.Sort (grow putRow putCells Holds)
theorem QjA {w:World} {B:Nat} {u:Value} {r:List Vl} (h:w.ownsRow B 46 3 u r.length (Qag r)) (O:∀x∈r,x.2.2.size<=maxLen) (H:0<r.length):∃g c y,u=.slice (some ⟨g,0,none⟩) r.length c/\w.heap[g]? =some (.cells y 46 (0,0))/\g<w.heap.size/\QaS w g 0 r:=by
 have J:=QbE h O;obtain⟨-,⟨-,U⟩|⟨g,F,y,rfl,Z,N,U,V,-,-⟩⟩:=h
 ·omega
 obtain⟨a,c,e,-,D⟩:=J;rcases D with D|⟨b,o,M,K,I⟩
 ·rw[D] at H;simp at H
 simp only[Value.slice.injEq] at e;obtain⟨E,-,rfl⟩:=e;rw[M] at E;simp only[Option.some.injEq,Addr.mk.injEq] at E;obtain⟨rfl,rfl,-⟩:=E;exact⟨g,F,y,rfl,N,K,I⟩
theorem Qbq {α:Type} [Inhabited α] (enc:α->Value) (w:World) (g m:Nat) (d:Array α) (os:Array Obj) (a:Addr) (h:a.block≠g) (y:a.block<w.heap.size):(sortWorld enc w g 0 m d os).cell? a=w.cell? a:=by
 unfold sortWorld;rw[Go.Sort.cell?_grow _ _ _ (by simpa using y),Go.Sort.cell?_putRow_other _ _ _ _ _ _ (Or.inl h)];rfl
theorem QkH (v D:Value) (us:List Value) (rs:List (List Vl)) (B B2 m:Nat) (E:List Nat) (w:World) (hv:w.ownsRow B 84 1 v rs.length us) (hH:Qab w B us rs) (hl:∀r∈rs,r.length=m) (h1:1<=m) (h6:m<=100) (bB:rs.length<=100) (V:w.ownsRow B2 3 1 D E.length (intCells E)) (aY:0<E.length) (aZ:E.length<=100) (aj:∀k∈E,k<m) (al:B<=w.heap.size):
 Calls Tryz.prog 144 #[v,D] w fun e w'=>∃H F,e=.returned v/\Stb.Sorted (ltR E) F/\Stb.Same (ltR E) rs F/\w'.ownsRow B 84 1 v rs.length H/\Qab w' B H F/\Below B w w':=by
 have bF:=mkF;obtain⟨aa,aX,rfl⟩:=own_slice V;obtain⟨D,au⟩:∃q,q=Value.slice aa E.length aX:=⟨_,rfl⟩;rw[<-au] at V⊢;have hS:∃a c,v=.slice a rs.length c/\Calls Tryz.prog 174 #[.slice a rs.length c,.func (.func 175) #[] #[.pointer (some ⟨w.heap.size,0,none⟩)]] (w.alloc (.cells #[D] 73)) fun e w'=>e=.returned (.tuple #[])/\∃H F,Stb.Sorted (ltR E) F/\Stb.Same (ltR E) rs F/\w'.ownsRow B 84 1 (.slice a rs.length c) rs.length H/\Qab w' B H F/\Below B w w':=by
  obtain⟨ax,⟨rfl,y⟩|⟨g,U,ah,rfl,aA,J,aK,aI,aG,ad⟩⟩:=hv
  ·refine⟨none,0,by rw[y],?_⟩;rw[y];refine(Qd4 none 0 _ _).mono ?_;rintro e w' ⟨rfl,rfl⟩;have Z:rs=[]:=List.length_eq_zero_iff.1 y;refine⟨rfl,[],rs,by rw[Z];exact List.Pairwise.nil,Stb.Same.refl _ _,World.ownsRow_nil _ _ _ _,by rw[Z];exact Qab.nil _ _,(Below.refl _ _).alloc al _⟩
  ·refine⟨some ⟨g,0,none⟩,U,rfl,?_⟩;have aF:g<w.heap.size:=(Array.getElem?_eq_some_iff.1 J).1;rcases Nat.eq_zero_or_pos rs.length with y|bn
   ·rw[y];refine(Qd4 _ U _ _).mono ?_;rintro e w' ⟨rfl,rfl⟩;have Z:rs=[]:=List.length_eq_zero_iff.1 y;have bD:us=[]:=List.length_eq_zero_iff.1 (by rw[ax,y]);have ho:w.ownsRow B 84 1 (.slice (some ⟨g,0,none⟩) 0 U) 0 us:=⟨by rw[ax,y],.inr ⟨g,U,ah,by rw[<-y],aA,J,by omega,aI,aG,by rw[y] at ad;exact ad⟩⟩;exact⟨rfl,us,rs,by rw[Z];exact List.Pairwise.nil,Stb.Same.refl _ _,ho.alloc _,hH.below (Qaa _ _),(Below.refl _ _).alloc al _⟩
   ·obtain⟨n,y⟩:∃n,rs.length=n+1:=⟨rs.length-1,by omega⟩;have K:us.length=n+1:=by rw[ax,y];omega
    have aH:∀k,k<w.heap.size->(w.alloc (.cells #[D] 73)).heap[k]? =w.heap[k]?:=(Qaa w _).block
    let enc:Fin (n+1)->Value:=fun i=>us[i.1]'(by rw[K];exact i.2)
    let row:Fin (n+1)->List Vl:=fun i=>rs[i.1]'(by rw[y];exact i.2)
    let cf:Fin (n+1)->Fin (n+1)->Int:=fun i j=>QdG E (row i) (row j)
    have M:∀i:Fin (n+1),∃b c cu,enc i=.slice (some ⟨b,0,none⟩) (row i).length c/\w.heap[b]? =some (.cells cu 46 (0,0))/\b<w.heap.size/\QaS w b 0 (row i)/\(row i).length=m/\b≠g:=by
     intro i;have hi:i.1<rs.length:=by rw[y];exact i.2
     have ag:(row i).length=m:=hl _ (List.getElem_mem hi);obtain⟨b,c,cu,q1,q2,q3,q4⟩:=QjA (hH.2 i.1 (by rw[K];exact i.2) hi).1 (hH.2 i.1 (by rw[K];exact i.2) hi).2 (by have:rs[i.1].length=m:=ag;omega);refine⟨b,c,cu,q1,q2,q3,q4,ag,?_⟩;rintro rfl;rw[J] at q2;simp at q2
    have am:(List.finRange (n+1)).length=rs.length:=by rw[List.length_finRange,y]
    have bE:(List.finRange (n+1)).map enc=us:=by
     refine List.ext_getElem (by simp[K]) fun k h1 h2=>?_
     simp[enc]
    have a8:(List.finRange (n+1)).map row=rs:=by
     refine List.ext_getElem (by simp[y]) fun k h1 h2=>?_
     simp[row]
    have hO:OneCell enc:=by
     intro i;obtain⟨b,c,cu,q1,-⟩:=M i;rw[q1];rfl
    have a0:Holds enc (w.alloc (.cells #[D] 73)) g 0 (List.finRange (n+1)).toArray:=by
     intro j N;have hj':j<rs.length:=by rw[<-am];simpa using N
     have hh:(w.alloc (.cells #[D] 73)).heap[g]? =some (.cells ah 84 (0,0)):=(aH g aF).trans J;refine⟨?_,by simp[World.frozen?,hh]⟩;have h1:(ah.toList.take rs.length)[j]? =us[j]?:=by rw[Nat.mul_one] at ad;rw[ad]
     rw[List.getElem?_take_of_lt hj'] at h1;simp only[World.cell?,hh,Nat.zero_add];simp only[Option.isSome_none,Bool.false_eq_true,if_false];rw[<-Array.getElem?_toList,h1,List.getElem?_eq_getElem (by rw[K];omega)];simp[enc,getElem!_pos,show j<n+1 by omega]
    have hR:Row1 enc (w.alloc (.cells #[D] 73)) g 0 (List.finRange (n+1)).toArray:=⟨hO,a0,by simp;omega⟩;obtain⟨ab,ac,aJ,-,aR,aW⟩:=QdL V aY;have a2:ab≠g:=by
     obtain⟨-,⟨-,h0⟩|⟨g',bj,bi,ai,-,aw,-,-,-,-⟩⟩:=V
     ·omega
     rw[aJ] at ai;simp only[Value.slice.injEq,Option.some.injEq,Addr.mk.injEq] at ai;obtain⟨⟨rfl,-⟩,-,-⟩:=ai;rintro rfl;rw[J] at aw;simp at aw
    have aQ:CmpLays1 Tryz.prog 175 #[.pointer (some ⟨w.heap.size,0,none⟩)] enc cf g 0 (List.finRange (n+1)).toArray.size (w.alloc (.cells #[D] 73)):=by
     intro q os dk bA i j;obtain⟨b,c,cu,e1,e2,e3,e4,e5,e6⟩:=M i;obtain⟨b',c',bC,f1,f2,f3,f4,f5,f6⟩:=M j;have I:∀a:Addr,a.block≠g->a.block<w.heap.size->(sortWorld enc (w.alloc (.cells #[D] 73)) g 0 q dk os).cell? a=w.cell? a:=fun a h h'=>(Qbq enc _ g q dk os a h (by simp;omega)).trans ((Qaa w _).cell h')
     have bz:w.heap.size+1<=(sortWorld enc (w.alloc (.cells #[D] 73)) g 0 q dk os).heap.size:=by unfold sortWorld;simp
     have a3:(sortWorld enc (w.alloc (.cells #[D] 73)) g 0 q dk os).cell? ⟨w.heap.size,0,none⟩=some (.slice (some ⟨ab,0,none⟩) E.length ac):=by
      rw[Qbq enc _ g q dk os _ (by show w.heap.size≠g;omega) (by simp),<-aJ];simp
     have hh:=QfE b 0 c b' 0 c' ab 0 ac w.heap.size (row i) (row j) E (sortWorld enc (w.alloc (.cells #[D] 73)) g 0 q dk os) (by omega) (fun k O=>by obtain⟨z0,z1,z2⟩:=e4 k O;exact⟨(I _ e6 e3).trans z0,(I _ e6 e3).trans z1,(I _ e6 e3).trans z2⟩) (by omega) (fun k O=>by obtain⟨z0,z1,z2⟩:=f4 k O;exact⟨(I _ f6 f3).trans z0,(I _ f6 f3).trans z1,(I _ f6 f3).trans z2⟩) (by omega) (fun k O=>(I _ a2 aR).trans (aW k O)) (by omega) a3 (by rw[e5];exact aj) (by rw[f5];exact aj) aZ (by omega) (by omega);rw[e1,f1];exact hh
    have ho:Stb.Ord (ltOf cf):=⟨fun a b h=>(Qjz E).asymm _ _ h,fun a b c h h'=>(Qjz E).ntrans _ _ _ h h'⟩;refine(Stb.sortStable_any enc cf 175 #[.pointer (some ⟨w.heap.size,0,none⟩)] g 0 U rs.length (List.finRange (n+1)) (w.alloc (.cells #[D] 73)) ?eg aQ ho hR am (by omega)).mono ?_
    case eg=>intro args W;first|rfl|kernel_rfl
    rintro e w' ⟨rfl,l,s1,s2,ap⟩;refine⟨rfl,l.map enc,l.map row,Stb.Sorted.map row s1,?_,?_,?_,?_⟩
    ·have:=Stb.Same.map (Qjz E) row s2;rw[a8] at this;exact this
    ·obtain⟨q,os,rfl⟩:=ap;have a7:l.length=rs.length:=by rw[<-s2.len ho,am]
     unfold sortWorld;exact owns_srt a7 aA ((aH g aF).trans J) aK aI aG
    ·obtain⟨q,os,rfl⟩:=ap;refine⟨by simp,fun j N hj'=>?_⟩;simp only[List.getElem_map];have hi:(l[j]'(by simpa using N)).1<rs.length:=by rw[y];exact(l[j]'(by simpa using N)).2
     have O:=hH.2 (l[j]'(by simpa using N)).1 (by rw[K];exact(l[j]'(by simpa using N)).2) hi;obtain⟨b,c,cu,e1,e2,e3,e4,e5,e6⟩:=M (l[j]'(by simpa using N));refine⟨(O.1.alloc _).kept (grown_srt (enc:=enc) (n:=q) (os:=os) l.toArray) ?_,O.2⟩;refine Or.inr ?_
     show(enc (l[j]'(by simpa using N))).ownBlock≠_
     rw[e1]
     show some b≠some g
     intro e;exact e6 (Option.some.inj e)
    ·obtain⟨q,os,rfl⟩:=ap;have bf:Below B w (w.alloc (.cells #[D] 73)):=(Below.refl _ _).alloc al _;have be:=grown_srt (enc:=enc) (w:=w.alloc (.cells #[D] 73)) (g:=g) (n:=q) (os:=os) l.toArray;exact bf.grown be (by simp;omega) (fun z hz=>by cases hz;exact aA)
 obtain⟨a,c,rfl,hS⟩:=hS;subst au;have HS:=Hk hS;clear hS hv hH hl aj V;go_enter Tryz.func144,Tryz.ntmps144;go_wp2_with (go_at_call 174;fail);refine HS.out.mono ?_;rintro e w2 ⟨rfl,hq⟩;have HF:=Hk hq;clear hq;go_wp2;go_ret;obtain⟨H,F,q1,q2,q3,q4,q5⟩:=HF.out;exact⟨H,F,rfl,q1,q2,q3,q4,q5⟩
end Go.Proofs.YtjlgejennghhlaaGreatDoor
namespace Go.Proofs.YtjlgejennghhlaaGreatDoor
open Go.RowKit
namespace Stb
variable {α:Type}
def Qcr (lt:α->α->Bool) (x:α):List α->List α
 |[]=>[x]
 |y::l=>if lt x y=true then x::y::l else y::Qcr lt x l
def sortL (lt:α->α->Bool) (l:List α):List α:=l.foldl (fun acc x=>Qcr lt x acc) []
theorem insL_mem {lt:α->α->Bool} {x z:α}:∀{l:List α},z∈Qcr lt x l->z=x\/z∈l
 |[],h=>by simp[Qcr] at h;exact Or.inl h
 |y::l,h=>by
  unfold Qcr at h;split at h
  ·rcases List.mem_cons.1 h with h|h
   ·exact Or.inl h
   ·exact Or.inr h
  ·rcases List.mem_cons.1 h with h|h
   ·exact Or.inr (by simp[h])
   ·rcases insL_mem h with h|h
    ·exact Or.inl h
    ·exact Or.inr (by simp[h])
theorem QeF {lt:α->α->Bool} (H:Ord lt) (x:α):∀(l:List α),Sorted lt l->Sorted lt (Qcr lt x l)/\Same lt (l++[x]) (Qcr lt x l)
 |[],_=>⟨List.pairwise_singleton _ _,Same.refl _ _⟩
 |y::l,h=>by
  obtain⟨I,J⟩:=List.pairwise_cons.1 h;unfold Qcr
  by_cases F:lt x y=true
  ·rw[if_pos F];have E:∀z∈y::l,lt x z=true:=fun z D=>by
    rcases List.mem_cons.1 D with rfl|D
    ·exact F
    ·exact H.lt_le F (I z D)
   refine⟨List.pairwise_cons.2 ⟨fun z D=>H.asymm _ _ (E z D),h⟩,?_⟩;exact Same.swap H (X:=y::l) (Y:=[x]) (fun z D u hu=>by simp at hu;subst hu;exact E z D)
  ·rw[if_neg F];obtain⟨k1,k2⟩:=QeF H x l J;have hx':lt x y=false:=by cases e:lt x y with |false=>rfl|true=>exact absurd e F
   refine⟨List.pairwise_cons.2 ⟨fun z D=>?_,k1⟩,?_⟩
   ·rcases insL_mem D with rfl|D
    ·exact hx'
    ·exact I z D
   ·exact(Same.refl lt [y]).app k2
theorem sortL_ok {lt:α->α->Bool} (E:Ord lt) (l:List α):Sorted lt (sortL lt l)/\Same lt l (sortL lt l):=by
 have D:∀(l acc p:List α),Sorted lt acc->Same lt p acc->Sorted lt (l.foldl (fun acc x=>Qcr lt x acc) acc)/\Same lt (p++l) (l.foldl (fun acc x=>Qcr lt x acc) acc):=by
  intro l
  induction l with
  |nil=>intro acc p y h;exact⟨y,by simpa using h⟩
  |cons x l ih=>
   intro acc p y h;obtain⟨k1,k2⟩:=QeF E x acc y;have:=ih (Qcr lt x acc) (p++[x]) k1 ((h.app (Same.refl lt [x])).trans k2);simpa using this
 have:=D l [] [] List.Pairwise.nil (Same.refl _ _);rw[List.nil_append] at this;exact this
theorem sortL_is {lt:α->α->Bool} (y:Ord lt) {l h:List α} (D:Sorted lt h) (E:Same lt l h):h=sortL lt l:=
 sorted_one y D (sortL_ok y l).1 (E.symm.trans (sortL_ok y l).2)
theorem sortL_len {lt:α->α->Bool} (h:Ord lt) (l:List α):(sortL lt l).length=l.length:=((sortL_ok h l).2.len h).symm
theorem sortL_mem {lt:α->α->Bool} (h:Ord lt) {l:List α} {x:α}:x∈sortL lt l↔x∈l:=((sortL_ok h l).2.mem h).symm
end Stb
def Qa9 (ks:List Nat) (rs:List (List Vl)):List (List Vl):=Stb.sortL (ltR ks) rs
theorem QbJ (h:List Nat) (rs:List (List Vl)):(Qa9 h rs).length=rs.length:=Stb.sortL_len (Qjz h) rs
theorem QgA (E M F Z b o n c:Nat) (cs:List Cl) (y:List ByteArray) (j:Jb) (w:World) (h:j.code=4) (ac:0<F) (ad:E<w.heap.size) (h0:w.cell? ⟨E,M,none⟩=some (.slice (some ⟨b,o,none⟩) n c)) (N:Qcm w j.cols y)
 (O:cs.length=n) (K:n<=100) (J:b<w.heap.size) (hc:Qau w b o cs):
 Calls Tryz.prog 96 #[.agg j.cells,.slice (some ⟨E,M,none⟩) F Z] w fun e w'=>e=.returned (QbN (QaR cs y))/\Below w.heap.size w w':=by
 have H:=fun W (I:Below w.heap.size w W)=>Qd2 j.cols .nilIface y b o n c cs W (N.below I) O K (by have:=I.size;omega) (hc.below I J)
 obtain⟨ca,cc,U,-⟩:=N;unfold Jb.cells;rw[U] at H⊢;generalize QaR cs y=r at*;obtain⟨code,D⟩:∃k,j.code=k:=⟨_,rfl⟩;rw[D] at h⊢;clear D;subst h;have HT:=Hk H;have htk':(0:Int)<(F:Int):=by omega
 clear H O hc U;go_enter Tryz.func96,Tryz.ntmps96;go_wp2_with (go_at_call 127;refine(HT.out _ (Qaa _ _)).mono ?_;rintro e w1 ⟨rfl,V⟩);go_ret;exact⟨rfl,bel_then (Qaa _ _) V⟩
theorem Qi0 (tb F tk tcap:Nat) (vc vr:Value) (cs:List Cl) (rs:List (List Vl)) (j:Jb) (w:World) (D:List ByteArray) (H:j.code=4) (hs:Qcm w j.cols D) (he:QaR cs D=0) (bk:0<tk) (Z:tb<w.heap.size) (t0:w.cell? ⟨tb,F,none⟩=some vc) (t1:w.cell? ⟨tb,F+1,none⟩=some vr)
 (hc:Qax w vc cs) (hr:QaG w vr rs) (K:1<=cs.length) (h6:cs.length<=100) (hl:∀r∈rs,r.length=cs.length) (am:rs.length<=100):
 Calls Tryz.prog 102 #[.agg j.cells,.slice (some ⟨tb,F,none⟩) tk tcap] w fun e w'=>∃v1 us1,e=.returned (.tuple #[v1,.slice none 0 0,.nilIface])/\w'.ownsRow w.heap.size 84 1 v1 rs.length us1/\Qab w' w.heap.size us1 (Qa9 (Qak cs D) rs)/\Below w.heap.size w w':=by
 have bm:=mkF;have ap:=Hk (fun W (hW:Below w.heap.size w W)=>Qa2 vr rs cs.length W (hr.below hW) hl K h6 am);obtain⟨l0,l6,M⟩:=QcF he;obtain⟨ca,cc,hj,ax,aP,O⟩:=hs;rcases O with h|⟨nb,no,rfl,a0,O⟩
 ·rw[h] at l0;simp at l0
 obtain⟨cb,co,N,aM,aA,ae⟩:=QbI hc K;have au:(Qak cs D).length=D.length:=by simp[Qak]
 have aq:=fun W (K:Below w.heap.size w W)=>Qd1 nb no cc cb co cs.length N D.length D (Qak cs D) cs W rfl (by omega) (by have:=K.size;omega) (O.below K a0) rfl h6 (by have:=K.size;omega) (ae.below K aA) au (Qd3 M)
 have aj:=fun(v av:Value) (us:List Value) (B B2:Nat) W (U:W.ownsRow B 84 1 v rs.length us) (hH:Qab W B us rs) (hi:W.ownsRow B2 3 1 av (Qak cs D).length (intCells (Qak cs D))) (hB:B<=W.heap.size)=>QkH v av us rs B B2 cs.length (Qak cs D) W U hH hl K h6 am hi (by omega) (by omega) (QcG M) hB
 have ao:0<(Qak cs D).length:=by omega
 generalize aY:Qak cs D=ks at*;have aO:=Hk aq;have aG:=Hk aj;have HK:=Hk ao;clear aq aj au M l0 l6 he aY ao O ax aP;have htk':(0:Int)<(tk:Int):=by omega
 clear hl;subst aM;clear hc ae;obtain⟨ra,aI,rfl,-⟩:=hr;have al:QaC (w.alloc (.cells j.cells 50)) w.heap.size j:=fun k v hk=>by rw[World.cell?_alloc_at _ _ _ _ rfl];exact hk
 have I:=Hk al;clear al;unfold Jb.cells at I⊢;rw[H,hj] at I⊢;have ar:=Hk (Ai H hj);clear H hj
 all_goals
  go_enter Tryz.func102,Tryz.ntmps102;go_wp2_with fail
  go_cut [7,8] (fun p v wx=>∃(ab:Nat) (us:List Value),p=.pointer (some ⟨ab,0,none⟩)/\wx.cell? ⟨ab,0,none⟩=some (.slice (some ⟨cb,co,none⟩) cs.length N)/\ab<wx.heap.size/\wx.ownsRow (w.heap.size+1) 84 1 v rs.length us/\Qab wx (w.heap.size+1) us rs/\QaC wx w.heap.size j/\Below w.heap.size w wx)
  case first=>
   go_region_held3 (fun w'=>w'.cell? ⟨tb,F,none⟩=some (.slice (some ⟨cb,co,none⟩) cs.length N)/\w'.cell? ⟨tb,F+1,none⟩=some (.slice ra rs.length aI))
    (first|(go_keep;done)|exact⟨(World.cell?_setCell_other _ _ _ _ (by intro e;simp at e;try omega)).trans k0,(World.cell?_setCell_other _ _ _ _ (by intro e;simp at e;try omega)).trans k1⟩)
    (first|(go_at_call 137;refine(ap.out _ (by first|exact(Qaa _ _).drew|exact(bel_box (Qaa _ _) _).drew)).mono ?_;rintro e V ⟨v1,us,rfl,J,ak,y⟩;have E:=bel_then (show Below w.heap.size w _ from(by first|exact(Qaa _ _).drew|exact(bel_box (Qaa _ _) _).drew)) y;have k0:=cK E Z t0;have k1:=cK E Z t1;have bn:tb<V.heap.size:=Nat.lt_of_lt_of_le Z E.size;(try(have kb:=(y.cell (p:=⟨w.heap.size+1,0,none⟩) (by simp)).trans (show _=some (Value.slice none 0 0) by simp);have kf:=(y.frozen (p:=⟨w.heap.size+1,0,none⟩) (by simp)).trans (show _=false by simp);have kz:w.heap.size+1<V.heap.size:=by(have:=y.size;simp at this;omega)))))
   all_goals go_wp2_with fail
   all_goals go_meet
   ·have ad:QaC V w.heap.size j:=fun k v hk=>(y.cell (p:=⟨w.heap.size,k,none⟩) (by simp)).trans (by simpa using I.out k v hk)
    exact⟨V.heap.size,us,rfl,by simp,by simp,(own_mono (by simp) J).alloc _,(ak.mono (by simp)).below (Qaa _ _),ad.below (Qaa _ _) (by have:=y.size;simp at this;omega),bel_box E _⟩
   ·have ad:QaC V w.heap.size j:=fun k v hk=>(y.cell (p:=⟨w.heap.size,k,none⟩) (by simp;omega)).trans (by simpa using I.out k v hk)
    exact⟨w.heap.size+1,us,rfl,World.cell?_setCell_same _ _ _ kb,by simpa using kz,own_mono (by simp) (ownsRow_setCell_below J (by simp) _),(Qab.set ak (by simp)).mono (by simp),fun k v hk=>(World.cell?_setCell_other _ _ _ _ (by intro e;simp at e)).trans (ad k v hk),E.setCell (by show w.heap.size<=w.heap.size+1;omega) _⟩
  case rest=>
   obtain⟨ab,us,rfl,bj,a7,U,hH,hJ,aa⟩:=hcut;have bh:=aa.size;have j1:wc.cell? ⟨w.heap.size,1,none⟩=some (.int .i64 4):=by have:=hJ 1 (.int .i64 j.code) rfl;rw[ar.out.1] at this;exact this
   have j4:wc.cell? ⟨w.heap.size,4,none⟩=some (.slice (some ⟨nb,no,none⟩) D.length cc):=by have:=hJ 4 j.cols rfl;rw[ar.out.2] at this;exact this
   have bg:=hJ.lt;have aK:=QbX U hH;have HB:=Hk (Ai aa (Ai U hH));obtain⟨xa,xc,rfl⟩:=own_slice U;clear aa U hH hJ aK ap I t0 t1;go_wp2_with (first|(go_at_call 131;refine(aO.out _ HB.out.1).mono ?_;rintro e V ⟨v1,rfl,J,y⟩;obtain⟨ga,gc,rfl⟩:=own_slice J)|(go_at_call 144;refine(aG.out _ _ us _ _ _ (owns_below HB.out.2.1 y) (HB.out.2.2.below y) J (by have:=y.size;have:=HB.out.2.1.1;omega)).mono ?_;rintro e w2 ⟨aT,aU,rfl,q1,q2,aS,aV,aQ⟩))
   go_ret3
   have bi:=y.size;have aZ:aU=Qa9 ks rs:=Stb.sortL_is (Qjz ks) q1 q2;subst aZ;exact⟨_,aT,rfl,own_mono (by omega) aS,aV.mono (by omega),(bel_then HB.out.1 y).trans (aQ.mono (Nat.le_succ _))⟩
theorem QkI (tb y tcap:Nat) (t:Tb) (j:Jb) (oa:Option Addr) (oc:Nat) (I:List ByteArray) (w:World) (h:j.code=4) (U:j.outs=.slice oa 1 oc) (hs:Qcm w j.cols I) (ht:QaZ w tb y [t]) (H:tb<w.heap.size) (V:Qgw t I=0):
 Calls Tryz.prog 61 #[.agg j.cells,.slice (some ⟨tb,y,none⟩) 1 tcap] w fun e w'=>∃g c,e=.returned (.tuple #[.slice (some ⟨g,0,none⟩) 1 c,.nilIface])/\w.heap.size<=g/\g<w'.heap.size/\QbR w' w.heap.size g [(t.1,Qa9 (Qak t.1 I) t.2)]/\Below w.heap.size w w':=by
 have ae:Qa3 j.code=(((1:Nat):Int),((1:Nat):Int)):=by rw[h];rfl
 obtain⟨hr,he⟩:=Qjv V;obtain⟨O,aw,ag,Z⟩:=Qan hr;obtain⟨vc,vr,c0,c1,hc,ac⟩:=ht 0 (by simp);refine Qd0 tb y tcap [t] j w ht H (by simp) (by simp) (by intro x K;simp at K;rw[K];exact hr) t.1 (Qa9 (Qak t.1 I) t.2) [] (by rw[QbJ];exact ag) (Qbp hc) ?_ (fun W D=>?_)
 ·intro W B g J us D ho hh;obtain⟨b,o,c,M,F,E,N⟩:=Qcs ho hh O;refine cols_ok _ oa J oc j 1 1 t.1 W U ae (by decide) (by decide) (fun W' hW'=>?_) (fun W' hW'=>QbF g 0 1 J b o t.1.length c t.1 j W' (Or.inr (Or.inr (Or.inr (Or.inl h)))) (by decide) (Nat.lt_of_lt_of_le F hW'.size) (cK hW' F M) rfl (by omega) (Nat.lt_of_lt_of_le E hW'.size) (N.below hW' E));have:=QgA g 0 1 J b o t.1.length c t.1 I j W' h (by decide) (Nat.lt_of_lt_of_le F hW'.size) (cK hW' F M) ((hs.below D).below hW') rfl (by omega) (Nat.lt_of_lt_of_le E hW'.size) (N.below hW' E);rw[he] at this;exact this
 ·refine(Qi0 tb y 1 tcap vc vr t.1 t.2 j W I h (hs.below D) he (by decide) (Nat.lt_of_lt_of_le H D.size) ((D.cell (p:=⟨tb,y,none⟩) H).trans (by simpa using c0)) ((D.cell (p:=⟨tb,y+1,none⟩) H).trans (by simpa using c1)) (hc.below D) (ac.below D) O (by omega) Z (by omega)).mono ?_;rintro e w' ⟨v1,ai,h1,h2,h3,hb⟩;exact⟨v1,.slice none 0 0,ai,[],h1,by rw[QbJ];exact h2,h3,World.ownsRow_nil _ _ _ _,Qab.nil _ _,hb⟩
end Go.Proofs.YtjlgejennghhlaaGreatDoor
