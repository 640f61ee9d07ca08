import Derived.Test.YtjlgejennghhlaaGreatDoorQ01
import Derived.Test.YtjlgejennghhlaaGreatDoorQ05
import Derived.Test.YtjlgejennghhlaaGreatDoorQ21
set_option linter.unusedSimpArgs false
set_option linter.unusedVariables false
set_option linter.unusedSectionVars false
set_option maxRecDepth 1000000
set_option maxHeartbeats 16000000
namespace Go.Proofs.YtjlgejennghhlaaGreatDoor
open Go.RowKit
theorem QgS (a b:UInt8) (x y:List UInt8):Op.bytesLess (a::x) (b::y)=true↔a<b\/(a=b/\Op.bytesLess x y=true):=by simp[Op.bytesLess]
theorem QlR:∀(l m:List UInt8),Op.bytesLess l m=true->Op.bytesLess m l=true->False
 |[],[],h,_=>by simp[Op.bytesLess] at h
 |[],_::_,_,h=>by simp[Op.bytesLess] at h
 |_::_,[],h,_=>by simp[Op.bytesLess] at h
 |c::r,d::q,h,k=>by
  rw[QgS] at h k;rcases h with h|⟨rfl,h⟩
  ·rcases k with k|⟨rfl,k⟩
   ·exact absurd (UInt8.lt_trans h k) (UInt8.lt_irrefl _)
   ·exact UInt8.lt_irrefl _ h
  ·rcases k with k|⟨-,k⟩
   ·exact UInt8.lt_irrefl _ k
   ·exact QlR r q h k
theorem Qpb:∀(l m:List UInt8),Op.bytesLess l m=false->Op.bytesLess m l=false->l=m
 |[],[],_,_=>rfl
 |[],_::_,h,_=>by simp[Op.bytesLess] at h
 |_::_,[],_,h=>by simp[Op.bytesLess] at h
 |c::r,d::q,h,k=>by
  have h':¬(c<d\/(c=d/\Op.bytesLess r q=true)):=fun e=>by rw[(QgS c d r q).2 e] at h;simp at h
  have k':¬(d<c\/(d=c/\Op.bytesLess q r=true)):=fun e=>by rw[(QgS d c q r).2 e] at k;simp at k
  have y:c=d:=by
   apply UInt8.toNat_inj.1;have D:¬c.toNat<d.toNat:=fun e=>h' (Or.inl (UInt8.lt_iff_toNat_lt.2 e))
   have F:¬d.toNat<c.toNat:=fun e=>k' (Or.inl (UInt8.lt_iff_toNat_lt.2 e))
   omega
  subst y;rw[Qpb r q (Qca fun e=>h' (Or.inr ⟨rfl,e⟩)) (Qca fun e=>k' (Or.inr ⟨rfl,e⟩))]
theorem Qjk:∀(l m n:List UInt8),Op.bytesLess l m=true->Op.bytesLess m n=true->Op.bytesLess l n=true
 |[],[],_,h,_=>by simp[Op.bytesLess] at h
 |_::_,[],_,h,_=>by simp[Op.bytesLess] at h
 |_,_::_,[],_,h=>by simp[Op.bytesLess] at h
 |[],_::_,_::_,_,_=>by simp[Op.bytesLess]
 |a::x,b::y,c::z,h,k=>by
  rw[QgS] at h k⊢;rcases h with h|⟨rfl,h⟩
  ·rcases k with k|⟨rfl,k⟩
   ·exact Or.inl (UInt8.lt_trans h k)
   ·exact Or.inl h
  ·rcases k with k|⟨rfl,k⟩
   ·exact Or.inl k
   ·exact Or.inr ⟨rfl,Qjk x y z h k⟩
theorem QlS {k n k' F:Int} {l H:List UInt8} (h:Qhm k n l k' F H=true):Qhm k' F H k n l=false:=by
 apply Qca;intro y;unfold Qhm at h y
 by_cases e:k=k'
 ·subst e;simp at h y;split at h
  ·rename_i D;simp[D] at y;omega
  ·rename_i D;simp[D] at y;exact QlR _ _ h y
 ·have e':¬k'=k:=fun x=>e x.symm
  simp[e] at h;simp[e'] at y;omega
theorem QlT {l m n:List UInt8} (h:Op.bytesLess l m=false) (y:Op.bytesLess m n=false):Op.bytesLess l n=false:=by
 cases e:Op.bytesLess l n with
 |false=>rfl
 |true=>
  cases e2:Op.bytesLess m l with
  |true=>exact absurd (Qjk _ _ _ e2 e) (by rw[y];decide)
  |false=>
   have:=Qpb _ _ h e2;subst this;exact absurd e (by rw[y];decide)
theorem Qq6:Stb.Ord QbX where
 asymm:=fun a b h=>QlS h
 ntrans:=fun a b c h h'=>by
  unfold QbX Qhm at*
  by_cases e1:a.1=b.1
  ·by_cases e2:b.1=c.1
   ·have y:a.1=c.1:=e1.trans e2;rw[if_neg (by simp[e1])] at h;rw[if_neg (by simp[e2])] at h';rw[if_neg (by simp[y])]
    by_cases e4:a.1=1
    ·rw[if_pos (by simp[e4])] at h⊢;rw[if_pos (by simp[<-e1,e4])] at h';simp only[decide_eq_false_iff_not,Int.not_lt] at*;omega
    ·rw[if_neg (by simp[e4])] at h⊢;rw[if_neg (by simp[<-e1,e4])] at h';exact QlT h h'
   ·rw[if_pos (by simp[e2])] at h';rw[if_pos (by simp[e1,e2])];simp only[decide_eq_false_iff_not,Int.not_lt] at*;omega
  ·rw[if_pos (by simp[e1])] at h;simp only[decide_eq_false_iff_not,Int.not_lt] at h
   by_cases e2:b.1=c.1
   ·rw[if_pos (by simp;omega)];simp only[decide_eq_false_iff_not,Int.not_lt];omega
   ·rw[if_pos (by simp[e2])] at h';simp only[decide_eq_false_iff_not,Int.not_lt] at h';rw[if_pos (by simp;omega)];simp only[decide_eq_false_iff_not,Int.not_lt];omega
def vAt (r:List Vl) (k:Nat):Vl:=(r[k]?).getD (0,0,⟨#[]⟩)
def QdA:List Nat->List Vl->List Vl->Int
 |[],_,_=>0
 |k::ks,x,y=>if QbX (vAt x k) (vAt y k)=true then-1 else if QbX (vAt y k) (vAt x k)=true then 1 else QdA ks x y
def ltR (ks:List Nat) (x y:List Vl):Bool:=decide (QdA ks x y<0)
theorem QhK:∀(D:List Nat) (x y:List Vl),QdA D x y<0->¬QdA D y x<0
 |[],_,_,h=>absurd h (by simp[QdA])
 |k::D,x,y,h=>by
  rw[QdA] at h⊢
  by_cases h1:QbX (vAt x k) (vAt y k)=true
  ·rw[if_neg (by rw[Qq6.asymm _ _ h1];decide),if_pos h1];decide
  ·rw[if_neg h1] at h
   by_cases h2:QbX (vAt y k) (vAt x k)=true
   ·rw[if_pos h2] at h;exact absurd h (by decide)
   ·rw[if_neg h2] at h;rw[if_neg h2,if_neg h1];exact QhK D x y h
theorem QfA:∀(D:List Nat) (x y z:List Vl),¬QdA D x y<0->¬QdA D y z<0->¬QdA D x z<0
 |[],_,_,_,_,_=>by simp[QdA]
 |k::D,x,y,z,h,h'=>by
  rw[QdA] at h h'⊢
  by_cases h1:QbX (vAt x k) (vAt y k)=true
  ·rw[if_pos h1] at h;exact absurd (by decide) h
  by_cases h2:QbX (vAt y k) (vAt z k)=true
  ·rw[if_pos h2] at h';exact absurd (by decide) h'
  have F:=Qca h1;have H:=Qca h2;rw[if_neg (by rw[Qq6.ntrans _ _ _ F H];decide)]
  by_cases h3:QbX (vAt z k) (vAt x k)=true
  ·rw[if_pos h3];decide
  ·rw[if_neg h3];have K:=Qca h3;have I:¬QbX (vAt y k) (vAt x k)=true:=by
    intro e;exact h3 (Qq6.le_lt H e)
   have J:¬QbX (vAt z k) (vAt y k)=true:=by
    intro e;exact h3 (Qq6.lt_le e F)
   rw[if_neg h1,if_neg I] at h;rw[if_neg h2,if_neg J] at h';exact QfA D x y z h h'
theorem Qjl (D:List Nat):Stb.Ord (ltR D) where
 asymm:=fun x y h=>decide_eq_false (QhK D x y (of_decide_eq_true h))
 ntrans:=fun x y z h h'=>decide_eq_false (QfA D x y z (of_decide_eq_false h) (of_decide_eq_false h'))
open Go.Sort in
theorem Qdn (a b:Vl) (w:World):
 Calls Tryz.prog 170 #[.agg #[.int .i64 a.1,.int .i64 a.2.1,.string a.2.2],.agg #[.int .i64 b.1,.int .i64 b.2.1,.string b.2.2]] w fun e w'=>e=.returned (.bool (QbX a b))/\∃q os',w'=grow (w.drewN q) os':=by
 obtain⟨k,n,s⟩:=a;obtain⟨k',D,F⟩:=b;have h:∀o o':Obj,∃q os',(w.alloc o).alloc o'=grow (w.drewN q) os':=fun o o'=>⟨0,#[o]++#[o'],by rw[alloc_eq_grow,alloc_eq_grow,grow_grow];rfl⟩
 have y:=Hk h;clear h;unfold QbX
 dsimp only
 go_enter Tryz.func170,Tryz.ntmps170;go_wp2
 all_goals go_ret
 all_goals refine⟨ret_bool ?_,y.out _ _⟩
 all_goals simp_all [Qhm,ByteArray.toList_eq]
end Go.Proofs.YtjlgejennghhlaaGreatDoor
namespace Go.Proofs.YtjlgejennghhlaaGreatDoor
open Go.RowKit
open Go.Sort (grow)
theorem Qdf {r:List Vl} {k:Nat} (h:k<r.length):vAt r k=r[k]:=by unfold vAt;rw[List.getElem?_eq_getElem h];rfl
theorem Qgw (w:World) (q:Nat) (os:Array Obj):(grow (w.drewN q) os).heap.size=w.heap.size+os.size:=by rw[Go.Sort.size_grow];rfl
theorem QfB (F xo xc D yo yc ab ao ac pb:Nat) (x y:List Vl) (h:List Nat) (w:World) (al:F<w.heap.size) (hx:QaR w F xo x) (ai:D<w.heap.size) (hy:QaR w D yo y) (aI:ab<w.heap.size) (hk:QcA w ab ao h) (a0:pb<w.heap.size) (hp:w.cell? ⟨pb,0,none⟩=some (.slice (some ⟨ab,ao,none⟩) h.length ac)) (H:∀k∈h,k<x.length) (K:∀k∈h,k<y.length) (h6:h.length<=100) (aZ:x.length<=100) (a2:y.length<=100):
 Calls Tryz.prog 175 #[.slice (some ⟨F,xo,none⟩) x.length xc,.slice (some ⟨D,yo,none⟩) y.length yc,.pointer (some ⟨pb,0,none⟩)] w fun e w'=>e=.returned (.int .i64 (QdA h x y))/\∃q os',w'=grow (w.drewN q) os':=by
 have aP:Tryz.prog.follows .mixedOrders=true:=by kernel_rfl
 have HX:Aside (QaR w F xo x/\QaR w D yo y/\QcA w ab ao h/\(∀k∈h,k<x.length)/\∀k∈h,k<y.length):=⟨hx,hy,hk,H,K⟩;have H0:Aside (∃q os,w=grow (w.drewN q) os):=⟨0,#[],by rw[Go.Sort.grow_empty];rfl⟩;clear hx hy hk H K;go_enter Tryz.func175,Tryz.ntmps175;go_wp2
 go_loopg [10] h.length (fun g1 vi wr=>∃(k:Nat),vi=.int .i64 k/\k<=h.length/\h.length-k<=g1/\Aside (∃q os,wr=grow (w.drewN q) os)/\Aside (QdA h x y=QdA (h.drop k) x y))
 case atStart=>exact⟨0,rfl,Nat.zero_le _,by omega,H0,(show QdA h x y=QdA (h.drop 0) x y by rw[List.drop_zero])⟩
 case round=>
  clear H0;obtain⟨k,rfl,a1,hg,HW,HC⟩:=hrel;have aY:w.heap.size<=wr.heap.size:=by obtain⟨q,os,e⟩:=HW.out;rw[e,Qgw];omega
  have O:Aside (∀(a:Addr) (v:Value),a.block<w.heap.size->w.cell? a=some v->wr.cell? a=some v):=by
   intro a v h1 h2;obtain⟨q,os,e⟩:=HW.out;rw[e];exact cell_grown h1 h2 q os
  by_cases hlt:k<h.length
  ·obtain⟨p,N⟩:∃p,h[k]=p:=⟨_,rfl⟩;obtain⟨hx,hy,aC,H,K⟩:=HX.out;have aA:p<x.length:=N▸H _ (List.getElem_mem hlt);have aB:p<y.length:=N▸K _ (List.getElem_mem hlt);have c0:wr.cell? ⟨ab,ao+k,none⟩=some (.int .i64 p):=O.out _ _ aI (by have:=aC k hlt;rw[N] at this;exact this);obtain⟨e0,e1,e2⟩:=hx p aA;obtain⟨f0,f1,f2⟩:=hy p aB;have HR:Aside (QdA (h.drop k) x y=if QbX x[p] y[p]=true then-1 else if QbX y[p] x[p]=true then 1 else QdA (h.drop (k+1)) x y):=(show QdA (h.drop k) x y=_ by rw[List.drop_eq_getElem_cons hlt,QdA,N,Qdf aA,Qdf aB]);generalize x[p]=a at*;generalize y[p]=b at*;have x0:=O.out _ _ (by exact al) e0;have x1:=O.out _ _ (by exact al) e1;have x2:=O.out _ _ (by exact al) e2;have y0:=O.out _ _ (by exact ai) f0;have y1:=O.out _ _ (by exact ai) f1;have y2:=O.out _ _ (by exact ai) f2;have X0:=cell_grown (by show F<_;omega) x0;have X1:=cell_grown (by show F<_;omega) x1;have X2:=cell_grown (by show F<_;omega) x2;have Y0:=cell_grown (by show D<_;omega) y0;have Z:=cell_grown (by show D<_;omega) y1;have V:=cell_grown (by show D<_;omega) y2;clear hx hy aC H K e0 e1 e2 f0 f1 f2 x0 x1 x2 y0 y1 y2 N
   cases hl1:QbX a b with
   |true=>
    have HV:Aside (QdA h x y= -1):=(show QdA h x y= -1 by rw[HC.out,HR.out,if_pos hl1]);have I:Aside (∀W:World,Calls Tryz.prog 170 #[.agg #[.int .i64 a.1,.int .i64 a.2.1,.string a.2.2],.agg #[.int .i64 b.1,.int .i64 b.2.1,.string b.2.2]] W fun e w'=>e=.returned (.bool true)/\∃q os',w'=grow (W.drewN q) os'):=fun W=>by have:=Qdn a b W;rw[hl1] at this;exact this
    clear hl1 HR HC;go_wp2_with fail
    go_quiet_grown (first|(go_at_call 170;refine Calls.grown_of (I.out _)))
    have M:Aside (∃q os,grow (wr.drewN nq) osq=grow (w.drewN q) os):=by
     obtain⟨q,os,e⟩:=HW.out;rw[e];exact⟨q+nq,os++osq,by show grow (grow ((w.drewN q).drewN nq) os) osq=_;rw[Go.Sort.grow_grow,World.drewN_drewN]⟩
    clear X0 X1 X2 Y0 Z V c0;generalize grow (wr.drewN nq) osq=w2 at M⊢;go_wp2;go_ret;exact⟨by rw[HV.out];rfl,M.out⟩
   |false=>
    have I:Aside (∀W:World,Calls Tryz.prog 170 #[.agg #[.int .i64 a.1,.int .i64 a.2.1,.string a.2.2],.agg #[.int .i64 b.1,.int .i64 b.2.1,.string b.2.2]] W fun e w'=>e=.returned (.bool false)/\∃q os',w'=grow (W.drewN q) os'):=fun W=>by have:=Qdn a b W;rw[hl1] at this;exact this
    have U:Aside (QdA h x y=if QbX b a=true then 1 else QdA (h.drop (k+1)) x y):=(show QdA h x y=_ by rw[HC.out,HR.out,if_neg (by rw[hl1];decide)]);clear hl1 HR HC;go_wp2_with fail
    go_quiet_grown (first|(go_at_call 170;refine Calls.grown_of (I.out _)))
    have M:Aside (∃q os,grow (wr.drewN nq) osq=grow (w.drewN q) os):=by
     obtain⟨q,os,e⟩:=HW.out;rw[e];exact⟨q+nq,os++osq,by show grow (grow ((w.drewN q).drewN nq) os) osq=_;rw[Go.Sort.grow_grow,World.drewN_drewN]⟩
    have aS:w.heap.size<=(grow (wr.drewN nq) osq).heap.size:=by rw[Qgw];omega
    have x0:=X0 nq osq;have x1:=X1 nq osq;have x2:=X2 nq osq;have y0:=Y0 nq osq;have y1:=Z nq osq;have y2:=V nq osq;clear X0 X1 X2 Y0 Z V c0 I;generalize grow (wr.drewN nq) osq=w2 at*;have X0:=cell_grown (by show F<_;omega) x0;have X1:=cell_grown (by show F<_;omega) x1;have X2:=cell_grown (by show F<_;omega) x2;have Y0:=cell_grown (by show D<_;omega) y0;have Z:=cell_grown (by show D<_;omega) y1;have V:=cell_grown (by show D<_;omega) y2;clear x0 x1 x2 y0 y1 y2 nq osq
    cases hl2:QbX b a with
    |true=>
     have HV:Aside (QdA h x y=1):=(show QdA h x y=1 by rw[U.out,if_pos hl2]);have I:Aside (∀W:World,Calls Tryz.prog 170 #[.agg #[.int .i64 b.1,.int .i64 b.2.1,.string b.2.2],.agg #[.int .i64 a.1,.int .i64 a.2.1,.string a.2.2]] W fun e w'=>e=.returned (.bool true)/\∃q os',w'=grow (W.drewN q) os'):=fun W=>by have:=Qdn b a W;rw[hl2] at this;exact this
     clear hl2 U;go_wp2_with fail
     go_quiet_grown (first|(go_at_call 170;refine Calls.grown_of (I.out _)))
     have J:Aside (∃q os,grow (w2.drewN nq) osq=grow (w.drewN q) os):=by
      obtain⟨q,os,e⟩:=M.out;rw[e];exact⟨q+nq,os++osq,by show grow (grow ((w.drewN q).drewN nq) os) osq=_;rw[Go.Sort.grow_grow,World.drewN_drewN]⟩
     clear X0 X1 X2 Y0 Z V;generalize grow (w2.drewN nq) osq=w3 at J⊢;go_wp2;go_ret;exact⟨by rw[HV.out];rfl,J.out⟩
    |false=>
     have HV:Aside (QdA h x y=QdA (h.drop (k+1)) x y):=(show QdA h x y=_ by rw[U.out,if_neg (by rw[hl2];decide)]);have I:Aside (∀W:World,Calls Tryz.prog 170 #[.agg #[.int .i64 b.1,.int .i64 b.2.1,.string b.2.2],.agg #[.int .i64 a.1,.int .i64 a.2.1,.string a.2.2]] W fun e w'=>e=.returned (.bool false)/\∃q os',w'=grow (W.drewN q) os'):=fun W=>by have:=Qdn b a W;rw[hl2] at this;exact this
     clear hl2 U;go_wp2_with fail
     go_quiet_grown (first|(go_at_call 170;refine Calls.grown_of (I.out _)))
     have J:Aside (∃q os,grow (w2.drewN nq) osq=grow (w.drewN q) os):=by
      obtain⟨q,os,e⟩:=M.out;rw[e];exact⟨q+nq,os++osq,by show grow (grow ((w.drewN q).drewN nq) os) osq=_;rw[Go.Sort.grow_grow,World.drewN_drewN]⟩
     clear X0 X1 X2 Y0 Z V;generalize grow (w2.drewN nq) osq=w3 at J⊢;go_wp2
     go_roundg (h.length-(k+1))
     case measure=>omega
     case rel=>exact⟨k+1,by go_num,by omega,Nat.le_refl _,J,HV⟩
  ·have a3:k=h.length:=by omega
   have aQ:¬(k:Int)<(h.length:Int):=by omega
   go_wp2;go_ret;refine⟨?_,HW.out⟩;rw[HC.out,List.drop_eq_nil_of_le (by omega)];rfl
end Go.Proofs.YtjlgejennghhlaaGreatDoor
namespace Go.Proofs.YtjlgejennghhlaaGreatDoor
open Go.RowKit
open Go.Sort (grow putRow putCells Holds)
namespace Stb
theorem eqv_cong {α:Type} {lt:α->α->Bool} (F:Ord lt) {x y:α} (h:eqv lt x y=true) (z:α):eqv lt x z=eqv lt y z:=by
 simp only[eqv,Bool.and_eq_true,Bool.not_eq_true'] at h;have one:∀a b c:α,lt a b=false->lt b a=false->eqv lt a c=true->eqv lt b c=true:=by
  intro a b c H I D;simp only[eqv,Bool.and_eq_true,Bool.not_eq_true'] at D⊢;exact⟨F.ntrans _ _ _ I D.1,F.ntrans _ _ _ D.2 H⟩
 cases e:eqv lt y z with
 |true=>exact one y x z h.2 h.1 e
 |false=>
  cases e2:eqv lt x z with
  |false=>rfl
  |true=>exact absurd (one x y z h.1 h.2 e2) (by rw[e];decide)
theorem Same.map {α β:Type} {lt:β->β->Bool} (F:Ord lt) (f:α->β) {l D:List α} (h:Same (fun a b=>lt (f a) (f b)) l D):Same lt (l.map f) (D.map f):=by
 have ho':Ord (fun a b=>lt (f a) (f b)):=⟨fun a b=>F.asymm _ _,fun a b c=>F.ntrans _ _ _⟩;intro x;rw[List.filter_map,List.filter_map]
 congr 1
 by_cases hx:∃i∈l,eqv lt x (f i)=true
 ·obtain⟨i,-,y⟩:=hx;have e:(eqv lt x∘f)=eqv (fun a b=>lt (f a) (f b)) i:=by
   funext j
   exact eqv_cong F y (f j)
  rw[e];exact h i
 ·have H:∀q:List α,(∀i∈q,i∈l)->q.filter (eqv lt x∘f)=[]:=fun q hq=>by
   rw[List.filter_eq_nil_iff];intro i y he;exact hx ⟨i,hq i y,he⟩
  rw[H l (fun i y=>y),H D (fun i y=>(h.mem ho').2 y)]
theorem Sorted.map {α β:Type} {lt:β->β->Bool} (f:α->β) {l:List α} (h:Sorted (fun a b=>lt (f a) (f b)) l):Sorted lt (l.map f):=List.pairwise_map.2 h
end Stb
section
variable {α:Type} [Inhabited α] {enc:α->Value}
theorem heap_srt {w:World} {g n:Nat} {os:Array Obj} {h:Array Value} {e:TypeId} {D:Nat×Nat} (d:Array α) (y:w.heap[g]? =some (.cells h e D)):
 (grow (putRow enc (Go.Sort.ahead w n) g 0 d) os).heap[g]? =some (.cells (putCells enc 0 d h) e D):=by
 have F:g<w.heap.size:=(Array.getElem?_eq_some_iff.1 y).1;rw[Go.Sort.heap_grow_old _ _ (by simpa using F)];simp[putRow,Go.Sort.mapBlock,Go.Sort.ahead,Array.getElem?_modify,y,Go.Sort.onCells]
theorem grown_srt {w:World} {g n:Nat} {os:Array Obj} (d:Array α):w.grownBy (grow (putRow enc (Go.Sort.ahead w n) g 0 d) os) (some g):=by
 refine⟨rfl,rfl,rfl,by simp,fun k hk hne=>?_⟩;rw[Go.Sort.heap_grow_old _ _ (by simpa using hk)];have:g≠k:=fun e=>hne (by rw[e])
 simp[putRow,Go.Sort.mapBlock,Go.Sort.ahead,Array.getElem?_modify,this]
theorem take_srt (y:Array Value) (ts:List α) (h:ts.length<=y.size):(putCells enc 0 ts.toArray y).toList.take ts.length=ts.map enc:=by
 apply List.ext_getElem?;intro j
 by_cases hj:j<ts.length
 ·rw[List.getElem?_take_of_lt hj,Array.getElem?_toList];simp[putCells,hj,show j<y.size by omega]
 ·rw[List.getElem?_take_eq_none (by omega),List.getElem?_eq_none (by simp;omega)]
theorem owns_srt {w:World} {base g h n k:Nat} {e:TypeId} {os:Array Obj} {y:Array Value} {ts:List α} (F:ts.length=k) (D:base<=g) (K:w.heap[g]? =some (.cells y e (0,0)))
 (I:k<=h) (H:h<=maxLen) (J:y.size=h*1):
 (grow (putRow enc (Go.Sort.ahead w n) g 0 ts.toArray) os).ownsRow base e 1 (.slice (some ⟨g,0,none⟩) k h) k (ts.map enc):=
 ⟨by simp[F],.inr ⟨g,h,_,rfl,D,heap_srt _ K,I,H,by simp[putCells,J],by rw[Nat.mul_one,<-F];exact take_srt y ts (by omega)⟩⟩
end
theorem QnZ (h y:Value) (w:World):Calls Tryz.prog 201 #[h,.int .i64 0,.int .i64 0,y] w fun e w'=>e=.returned (.tuple #[])/\w'=w:=by
 go_enter Tryz.func201,Tryz.ntmps201;go_wp2
 go_loopg [8] 0 (fun g1 vi wr=>vi=.int .i64 1/\wr=w)
 case atStart=>exact⟨rfl,rfl⟩
 case round=>
  obtain⟨rfl,rfl⟩:=hrel;go_wp2
  go_end0
  exact⟨rfl,rfl⟩
theorem QiM (h D:Value) (w:World):Calls Tryz.prog 193 #[h,.int .i64 0,D] w fun e w'=>e=.returned (.tuple #[])/\w'=w:=by
 go_enter Tryz.func193,Tryz.ntmps193;go_wp2
 go_loopg [7,8] 0 (fun g1 va vb wr=>va=.int .i64 0/\vb=.int .i64 20/\wr=w)
 case atStart=>exact⟨rfl,rfl,rfl⟩
 case round=>
  obtain⟨rfl,rfl,rfl⟩:=hrel;go_wp2_with (go_at_call 201;refine(QnZ _ _ _).mono ?_;rintro e y ⟨rfl,rfl⟩)
  go_loopg [6] 0 (fun g1 va wr'=>va=.int .i64 20/\wr'=y)
  case atStart=>exact⟨rfl,rfl⟩
  case round=>
   obtain⟨rfl,rfl⟩:=hrel;go_wp2
   go_end0
   exact⟨rfl,rfl⟩
theorem QdY (a:Option Addr) (c:Nat) (h:Value) (w:World):Calls Tryz.prog 174 #[.slice a 0 c,h] w fun e w'=>e=.returned (.tuple #[])/\w'=w:=by
 go_enter Tryz.func174,Tryz.ntmps174;go_wp2_with (go_at_call 193;fail);refine(QiM _ _ _).mono ?_;rintro e y ⟨rfl,rfl⟩;go_wp2
 go_end0
 exact⟨rfl,rfl⟩
end Go.Proofs.YtjlgejennghhlaaGreatDoor
namespace Go.Proofs.YtjlgejennghhlaaGreatDoor
open Go.RowKit
open Go.Sort (grow putRow putCells Holds)
theorem Qjm {w:World} {B:Nat} {u:Value} {r:List Vl} (h:w.ownsRow B 46 3 u r.length (Qag r)) (U:∀x∈r,x.2.2.size<=maxLen) (I:0<r.length):∃g c y,u=.slice (some ⟨g,0,none⟩) r.length c/\w.heap[g]? =some (.cells y 46 (0,0))/\g<w.heap.size/\QaR w g 0 r:=by
 have K:=QbB h U;obtain⟨-,⟨-,V⟩|⟨g,H,y,rfl,hg,O,V,Z,-,-⟩⟩:=h
 ·omega
 obtain⟨a,c,e,-,D⟩:=K;rcases D with D|⟨b,o,N,M,J⟩
 ·rw[D] at I;simp at I
 simp only[Value.slice.injEq] at e;obtain⟨F,-,rfl⟩:=e;rw[N] at F;simp only[Option.some.injEq,Addr.mk.injEq] at F;obtain⟨rfl,rfl,-⟩:=F;exact⟨g,H,y,rfl,O,M,J⟩
theorem Qbp {α:Type} [Inhabited α] (enc:α->Value) (w:World) (g m:Nat) (d:Array α) (os:Array Obj) (a:Addr) (h:a.block≠g) (y:a.block<w.heap.size):(sortWorld enc w g 0 m d os).cell? a=w.cell? a:=by
 unfold sortWorld;rw[Go.Sort.cell?_grow _ _ _ (by simpa using y),Go.Sort.cell?_putRow_other _ _ _ _ _ _ (Or.inl h)];rfl
theorem Qkv (v D:Value) (us:List Value) (rs:List (List Vl)) (B B2 m:Nat) (F:List Nat) (w:World) (hv:w.ownsRow B 84 1 v rs.length us) (hH:Qab w B us rs) (hl:∀r∈rs,r.length=m) (h1:1<=m) (h6:m<=100) (bC:rs.length<=100) (Z:w.ownsRow B2 3 1 D F.length (intCells F)) (aZ:0<F.length) (a0:F.length<=100) (ak:∀k∈F,k<m) (am:B<=w.heap.size):
 Calls Tryz.prog 144 #[v,D] w fun e w'=>∃I H,e=.returned v/\Stb.Sorted (ltR F) H/\Stb.Same (ltR F) rs H/\w'.ownsRow B 84 1 v rs.length I/\Qab w' B I H/\Below B w w':=by
 have bG:=mkF;obtain⟨aa,aY,rfl⟩:=own_slice Z;obtain⟨D,aw⟩:∃q,q=Value.slice aa F.length aY:=⟨_,rfl⟩;rw[<-aw] at Z⊢;have hS:∃a c,v=.slice a rs.length c/\Calls Tryz.prog 174 #[.slice a rs.length c,.func (.func 175) #[] #[.pointer (some ⟨w.heap.size,0,none⟩)]] (w.alloc (.cells #[D] 73)) fun e w'=>e=.returned (.tuple #[])/\∃I H,Stb.Sorted (ltR F) H/\Stb.Same (ltR F) rs H/\w'.ownsRow B 84 1 (.slice a rs.length c) rs.length I/\Qab w' B I H/\Below B w w':=by
  obtain⟨ay,⟨rfl,y⟩|⟨g,V,ai,rfl,aB,K,aL,aJ,aH,ae⟩⟩:=hv
  ·refine⟨none,0,by rw[y],?_⟩;rw[y];refine(QdY none 0 _ _).mono ?_;rintro e w' ⟨rfl,rfl⟩;have ad:rs=[]:=List.length_eq_zero_iff.1 y;refine⟨rfl,[],rs,by rw[ad];exact List.Pairwise.nil,Stb.Same.refl _ _,World.ownsRow_nil _ _ _ _,by rw[ad];exact Qab.nil _ _,(Below.refl _ _).alloc am _⟩
  ·refine⟨some ⟨g,0,none⟩,V,rfl,?_⟩;have aG:g<w.heap.size:=(Array.getElem?_eq_some_iff.1 K).1;rcases Nat.eq_zero_or_pos rs.length with y|bo
   ·rw[y];refine(QdY _ V _ _).mono ?_;rintro e w' ⟨rfl,rfl⟩;have ad:rs=[]:=List.length_eq_zero_iff.1 y;have bE:us=[]:=List.length_eq_zero_iff.1 (by rw[ay,y]);have ho:w.ownsRow B 84 1 (.slice (some ⟨g,0,none⟩) 0 V) 0 us:=⟨by rw[ay,y],.inr ⟨g,V,ai,by rw[<-y],aB,K,by omega,aJ,aH,by rw[y] at ae;exact ae⟩⟩;exact⟨rfl,us,rs,by rw[ad];exact List.Pairwise.nil,Stb.Same.refl _ _,ho.alloc _,hH.below (Qaa _ _),(Below.refl _ _).alloc am _⟩
   ·obtain⟨n,y⟩:∃n,rs.length=n+1:=⟨rs.length-1,by omega⟩;have M:us.length=n+1:=by rw[ay,y];omega
    have aI:∀k,k<w.heap.size->(w.alloc (.cells #[D] 73)).heap[k]? =w.heap[k]?:=(Qaa w _).block
    let enc:Fin (n+1)->Value:=fun i=>us[i.1]'(by rw[M];exact i.2)
    let row:Fin (n+1)->List Vl:=fun i=>rs[i.1]'(by rw[y];exact i.2)
    let cf:Fin (n+1)->Fin (n+1)->Int:=fun i j=>QdA F (row i) (row j)
    have N:∀i:Fin (n+1),∃b c cu,enc i=.slice (some ⟨b,0,none⟩) (row i).length c/\w.heap[b]? =some (.cells cu 46 (0,0))/\b<w.heap.size/\QaR w b 0 (row i)/\(row i).length=m/\b≠g:=by
     intro i;have hi:i.1<rs.length:=by rw[y];exact i.2
     have ah:(row i).length=m:=hl _ (List.getElem_mem hi);obtain⟨b,c,cu,q1,q2,q3,q4⟩:=Qjm (hH.2 i.1 (by rw[M];exact i.2) hi).1 (hH.2 i.1 (by rw[M];exact i.2) hi).2 (by have:rs[i.1].length=m:=ah;omega);refine⟨b,c,cu,q1,q2,q3,q4,ah,?_⟩;rintro rfl;rw[K] at q2;simp at q2
    have ao:(List.finRange (n+1)).length=rs.length:=by rw[List.length_finRange,y]
    have bF:(List.finRange (n+1)).map enc=us:=by
     refine List.ext_getElem (by simp[M]) fun k h1 h2=>?_
     simp[enc]
    have a9:(List.finRange (n+1)).map row=rs:=by
     refine List.ext_getElem (by simp[y]) fun k h1 h2=>?_
     simp[row]
    have hO:OneCell enc:=by
     intro i;obtain⟨b,c,cu,q1,-⟩:=N i;rw[q1];rfl
    have a1:Holds enc (w.alloc (.cells #[D] 73)) g 0 (List.finRange (n+1)).toArray:=by
     intro j O;have hj':j<rs.length:=by rw[<-ao];simpa using O
     have hh:(w.alloc (.cells #[D] 73)).heap[g]? =some (.cells ai 84 (0,0)):=(aI g aG).trans K;refine⟨?_,by simp[World.frozen?,hh]⟩;have h1:(ai.toList.take rs.length)[j]? =us[j]?:=by rw[Nat.mul_one] at ae;rw[ae]
     rw[List.getElem?_take_of_lt hj'] at h1;simp only[World.cell?,hh,Nat.zero_add];simp only[Option.isSome_none,Bool.false_eq_true,if_false];rw[<-Array.getElem?_toList,h1,List.getElem?_eq_getElem (by rw[M];omega)];simp[enc,getElem!_pos,show j<n+1 by omega]
    have hR:Row1 enc (w.alloc (.cells #[D] 73)) g 0 (List.finRange (n+1)).toArray:=⟨hO,a1,by simp;omega⟩;obtain⟨ab,ac,aK,-,aS,aX⟩:=QdG Z aZ;have a3:ab≠g:=by
     obtain⟨-,⟨-,h0⟩|⟨g',bk,bj,aj,-,ax,-,-,-,-⟩⟩:=Z
     ·omega
     rw[aK] at aj;simp only[Value.slice.injEq,Option.some.injEq,Addr.mk.injEq] at aj;obtain⟨⟨rfl,-⟩,-,-⟩:=aj;rintro rfl;rw[K] at ax;simp at ax
    have aR:CmpLays1 Tryz.prog 175 #[.pointer (some ⟨w.heap.size,0,none⟩)] enc cf g 0 (List.finRange (n+1)).toArray.size (w.alloc (.cells #[D] 73)):=by
     intro q os dk bB i j;obtain⟨b,c,cu,e1,e2,e3,e4,e5,e6⟩:=N i;obtain⟨b',c',bD,f1,f2,f3,f4,f5,f6⟩:=N j;have J:∀a:Addr,a.block≠g->a.block<w.heap.size->(sortWorld enc (w.alloc (.cells #[D] 73)) g 0 q dk os).cell? a=w.cell? a:=fun a h h'=>(Qbp enc _ g q dk os a h (by simp;omega)).trans ((Qaa w _).cell h')
     have bA:w.heap.size+1<=(sortWorld enc (w.alloc (.cells #[D] 73)) g 0 q dk os).heap.size:=by unfold sortWorld;simp
     have a4:(sortWorld enc (w.alloc (.cells #[D] 73)) g 0 q dk os).cell? ⟨w.heap.size,0,none⟩=some (.slice (some ⟨ab,0,none⟩) F.length ac):=by
      rw[Qbp enc _ g q dk os _ (by show w.heap.size≠g;omega) (by simp),<-aK];simp
     have hh:=QfB b 0 c b' 0 c' ab 0 ac w.heap.size (row i) (row j) F (sortWorld enc (w.alloc (.cells #[D] 73)) g 0 q dk os) (by omega) (fun k U=>by obtain⟨z0,z1,z2⟩:=e4 k U;exact⟨(J _ e6 e3).trans z0,(J _ e6 e3).trans z1,(J _ e6 e3).trans z2⟩) (by omega) (fun k U=>by obtain⟨z0,z1,z2⟩:=f4 k U;exact⟨(J _ f6 f3).trans z0,(J _ f6 f3).trans z1,(J _ f6 f3).trans z2⟩) (by omega) (fun k U=>(J _ a3 aS).trans (aX k U)) (by omega) a4 (by rw[e5];exact ak) (by rw[f5];exact ak) a0 (by omega) (by omega);rw[e1,f1];exact hh
    have ho:Stb.Ord (ltOf cf):=⟨fun a b h=>(Qjl F).asymm _ _ h,fun a b c h h'=>(Qjl F).ntrans _ _ _ h h'⟩;refine(Stb.sortStable_any enc cf 175 #[.pointer (some ⟨w.heap.size,0,none⟩)] g 0 V rs.length (List.finRange (n+1)) (w.alloc (.cells #[D] 73)) ?eg aR ho hR ao (by omega)).mono ?_
    case eg=>intro args W;first|rfl|kernel_rfl
    rintro e w' ⟨rfl,l,s1,s2,aq⟩;refine⟨rfl,l.map enc,l.map row,Stb.Sorted.map row s1,?_,?_,?_,?_⟩
    ·have:=Stb.Same.map (Qjl F) row s2;rw[a9] at this;exact this
    ·obtain⟨q,os,rfl⟩:=aq;have a8:l.length=rs.length:=by rw[<-s2.len ho,ao]
     unfold sortWorld;exact owns_srt a8 aB ((aI g aG).trans K) aL aJ aH
    ·obtain⟨q,os,rfl⟩:=aq;refine⟨by simp,fun j O hj'=>?_⟩;simp only[List.getElem_map];have hi:(l[j]'(by simpa using O)).1<rs.length:=by rw[y];exact(l[j]'(by simpa using O)).2
     have U:=hH.2 (l[j]'(by simpa using O)).1 (by rw[M];exact(l[j]'(by simpa using O)).2) hi;obtain⟨b,c,cu,e1,e2,e3,e4,e5,e6⟩:=N (l[j]'(by simpa using O));refine⟨(U.1.alloc _).kept (grown_srt (enc:=enc) (n:=q) (os:=os) l.toArray) ?_,U.2⟩;refine Or.inr ?_
     show(enc (l[j]'(by simpa using O))).ownBlock≠_
     rw[e1]
     show some b≠some g
     intro e;exact e6 (Option.some.inj e)
    ·obtain⟨q,os,rfl⟩:=aq;have bg:Below B w (w.alloc (.cells #[D] 73)):=(Below.refl _ _).alloc am _;have bf:=grown_srt (enc:=enc) (w:=w.alloc (.cells #[D] 73)) (g:=g) (n:=q) (os:=os) l.toArray;exact bg.grown bf (by simp;omega) (fun z hz=>by cases hz;exact aB)
 obtain⟨a,c,rfl,hS⟩:=hS;subst aw;have HS:=Hk hS;clear hS hv hH hl ak Z;go_enter Tryz.func144,Tryz.ntmps144;go_wp2_with (go_at_call 174;fail);refine HS.out.mono ?_;rintro e w2 ⟨rfl,hq⟩;have HF:=Hk hq;clear hq;go_wp2;go_ret;obtain⟨I,H,q1,q2,q3,q4,q5⟩:=HF.out;exact⟨I,H,rfl,q1,q2,q3,q4,q5⟩
end Go.Proofs.YtjlgejennghhlaaGreatDoor
namespace Go.Proofs.YtjlgejennghhlaaGreatDoor
open Go.RowKit
namespace Stb
variable {α:Type}
def QcL (lt:α->α->Bool) (x:α):List α->List α
 |[]=>[x]
 |y::l=>if lt x y=true then x::y::l else y::QcL lt x l
def sortL (lt:α->α->Bool) (l:List α):List α:=l.foldl (fun acc x=>QcL lt x acc) []
theorem insL_mem {lt:α->α->Bool} {x z:α}:∀{l:List α},z∈QcL lt x l->z=x\/z∈l
 |[],h=>by simp[QcL] at h;exact Or.inl h
 |y::l,h=>by
  unfold QcL at h;split at h
  ·rcases List.mem_cons.1 h with h|h
   ·exact Or.inl h
   ·exact Or.inr h
  ·rcases List.mem_cons.1 h with h|h
   ·exact Or.inr (by simp[h])
   ·rcases insL_mem h with h|h
    ·exact Or.inl h
    ·exact Or.inr (by simp[h])
theorem Qf3 {lt:α->α->Bool} (I:Ord lt) (x:α):∀(l:List α),Sorted lt l->Sorted lt (QcL lt x l)/\Same lt (l++[x]) (QcL lt x l)
 |[],_=>⟨List.pairwise_singleton _ _,Same.refl _ _⟩
 |y::l,h=>by
  obtain⟨J,K⟩:=List.pairwise_cons.1 h;unfold QcL
  by_cases H:lt x y=true
  ·rw[if_pos H];have F:∀z∈y::l,lt x z=true:=fun z D=>by
    rcases List.mem_cons.1 D with rfl|D
    ·exact H
    ·exact I.lt_le H (J z D)
   refine⟨List.pairwise_cons.2 ⟨fun z D=>I.asymm _ _ (F z D),h⟩,?_⟩;exact Same.swap I (X:=y::l) (Y:=[x]) (fun z D u hu=>by simp at hu;subst hu;exact F z D)
  ·rw[if_neg H];obtain⟨k1,k2⟩:=Qf3 I x l K;have hx':lt x y=false:=by cases e:lt x y with |false=>rfl|true=>exact absurd e H
   refine⟨List.pairwise_cons.2 ⟨fun z D=>?_,k1⟩,?_⟩
   ·rcases insL_mem D with rfl|D
    ·exact hx'
    ·exact J z D
   ·exact(Same.refl lt [y]).app k2
theorem sortL_ok {lt:α->α->Bool} (F:Ord lt) (l:List α):Sorted lt (sortL lt l)/\Same lt l (sortL lt l):=by
 have D:∀(l acc p:List α),Sorted lt acc->Same lt p acc->Sorted lt (l.foldl (fun acc x=>QcL lt x acc) acc)/\Same lt (p++l) (l.foldl (fun acc x=>QcL lt x acc) acc):=by
  intro l
  induction l with
  |nil=>intro acc p y h;exact⟨y,by simpa using h⟩
  |cons x l ih=>
   intro acc p y h;obtain⟨k1,k2⟩:=Qf3 F x acc y;have:=ih (QcL lt x acc) (p++[x]) k1 ((h.app (Same.refl lt [x])).trans k2);simpa using this
 have:=D l [] [] List.Pairwise.nil (Same.refl _ _);rw[List.nil_append] at this;exact this
theorem sortL_is {lt:α->α->Bool} (y:Ord lt) {l h:List α} (D:Sorted lt h) (F:Same lt l h):h=sortL lt l:=
 sorted_one y D (sortL_ok y l).1 (F.symm.trans (sortL_ok y l).2)
theorem sortL_len {lt:α->α->Bool} (h:Ord lt) (l:List α):(sortL lt l).length=l.length:=((sortL_ok h l).2.len h).symm
theorem sortL_mem {lt:α->α->Bool} (h:Ord lt) {l:List α} {x:α}:x∈sortL lt l↔x∈l:=((sortL_ok h l).2.mem h).symm
end Stb
def Qa8 (ks:List Nat) (rs:List (List Vl)):List (List Vl):=Stb.sortL (ltR ks) rs
theorem QbG (h:List Nat) (rs:List (List Vl)):(Qa8 h rs).length=rs.length:=Stb.sortL_len (Qjl h) rs
theorem Qgx (F N H aa b o n c:Nat) (cs:List Cl) (y:List ByteArray) (j:Jb) (w:World) (h:j.code=4) (ad:0<H) (ae:F<w.heap.size) (h0:w.cell? ⟨F,N,none⟩=some (.slice (some ⟨b,o,none⟩) n c)) (O:Qcl w j.cols y)
 (U:cs.length=n) (M:n<=100) (K:b<w.heap.size) (hc:Qau w b o cs):
 Calls Tryz.prog 96 #[.agg j.cells,.slice (some ⟨F,N,none⟩) H aa] w fun e w'=>e=.returned (QbK (QaQ cs y))/\Below w.heap.size w w':=by
 have I:=fun W (J:Below w.heap.size w W)=>QdW j.cols .nilIface y b o n c cs W (O.below J) U M (by have:=J.size;omega) (hc.below J K)
 obtain⟨ca,cc,V,-⟩:=O;unfold Jb.cells;rw[V] at I⊢;generalize QaQ cs y=r at*;obtain⟨code,D⟩:∃k,j.code=k:=⟨_,rfl⟩;rw[D] at h⊢;clear D;subst h;have HT:=Hk I;have htk':(0:Int)<(H:Int):=by omega
 clear I U hc V;go_enter Tryz.func96,Tryz.ntmps96;go_wp2_with (go_at_call 127;refine(HT.out _ (Qaa _ _)).mono ?_;rintro e w1 ⟨rfl,Z⟩);go_ret;exact⟨rfl,bel_then (Qaa _ _) Z⟩
theorem QiN (tb H tk tcap:Nat) (vc vr:Value) (cs:List Cl) (rs:List (List Vl)) (j:Jb) (w:World) (D:List ByteArray) (I:j.code=4) (hs:Qcl w j.cols D) (he:QaQ cs D=0) (bm:0<tk) (aa:tb<w.heap.size) (t0:w.cell? ⟨tb,H,none⟩=some vc) (t1:w.cell? ⟨tb,H+1,none⟩=some vr)
 (hc:Qax w vc cs) (hr:QaG w vr rs) (M:1<=cs.length) (h6:cs.length<=100) (hl:∀r∈rs,r.length=cs.length) (ao:rs.length<=100):
 Calls Tryz.prog 102 #[.agg j.cells,.slice (some ⟨tb,H,none⟩) tk tcap] w fun e w'=>∃v1 us1,e=.returned (.tuple #[v1,.slice none 0 0,.nilIface])/\w'.ownsRow w.heap.size 84 1 v1 rs.length us1/\Qab w' w.heap.size us1 (Qa8 (Qaj cs D) rs)/\Below w.heap.size w w':=by
 have bn:=mkF;have aq:=Hk (fun W (hW:Below w.heap.size w W)=>Qa0 vr rs cs.length W (hr.below hW) hl M h6 ao);obtain⟨l0,l6,N⟩:=QcB he;obtain⟨ca,cc,hj,ay,aQ,U⟩:=hs;rcases U with h|⟨nb,no,rfl,a1,U⟩
 ·rw[h] at l0;simp at l0
 obtain⟨cb,co,O,aN,aB,af⟩:=QbF hc M;have aw:(Qaj cs D).length=D.length:=by simp[Qaj]
 have ar:=fun W (M:Below w.heap.size w W)=>QdV nb no cc cb co cs.length O D.length D (Qaj cs D) cs W rfl (by omega) (by have:=M.size;omega) (U.below M a1) rfl h6 (by have:=M.size;omega) (af.below M aB) aw (QdX N)
 have ak:=fun(v av:Value) (us:List Value) (B B2:Nat) W (V:W.ownsRow B 84 1 v rs.length us) (hH:Qab W B us rs) (hi:W.ownsRow B2 3 1 av (Qaj cs D).length (intCells (Qaj cs D))) (hB:B<=W.heap.size)=>Qkv v av us rs B B2 cs.length (Qaj cs D) W V hH hl M h6 ao hi (by omega) (by omega) (QcC N) hB
 have ap:0<(Qaj cs D).length:=by omega
 generalize aZ:Qaj cs D=ks at*;have aP:=Hk ar;have aH:=Hk ak;have HK:=Hk ap;clear ar ak aw N l0 l6 he aZ ap U ay aQ;have htk':(0:Int)<(tk:Int):=by omega
 clear hl;subst aN;clear hc af;obtain⟨ra,aJ,rfl,-⟩:=hr;have am:QaC (w.alloc (.cells j.cells 50)) w.heap.size j:=fun k v hk=>by rw[World.cell?_alloc_at _ _ _ _ rfl];exact hk
 have J:=Hk am;clear am;unfold Jb.cells at J⊢;rw[I,hj] at J⊢;have au:=Hk (Ai I hj);clear I hj
 all_goals
  go_enter Tryz.func102,Tryz.ntmps102;go_wp2_with fail
  go_cut [7,8] (fun p v wx=>∃(ab:Nat) (us:List Value),p=.pointer (some ⟨ab,0,none⟩)/\wx.cell? ⟨ab,0,none⟩=some (.slice (some ⟨cb,co,none⟩) cs.length O)/\ab<wx.heap.size/\wx.ownsRow (w.heap.size+1) 84 1 v rs.length us/\Qab wx (w.heap.size+1) us rs/\QaC wx w.heap.size j/\Below w.heap.size w wx)
  case first=>
   go_region_held3 (fun w'=>w'.cell? ⟨tb,H,none⟩=some (.slice (some ⟨cb,co,none⟩) cs.length O)/\w'.cell? ⟨tb,H+1,none⟩=some (.slice ra rs.length aJ))
    (first|(go_keep;done)|exact⟨(World.cell?_setCell_other _ _ _ _ (by intro e;simp at e;try omega)).trans k0,(World.cell?_setCell_other _ _ _ _ (by intro e;simp at e;try omega)).trans k1⟩)
    (first|(go_at_call 137;refine(aq.out _ (by first|exact(Qaa _ _).drew|exact(bel_box (Qaa _ _) _).drew)).mono ?_;rintro e Z ⟨v1,us,rfl,K,al,y⟩;have F:=bel_then (show Below w.heap.size w _ from(by first|exact(Qaa _ _).drew|exact(bel_box (Qaa _ _) _).drew)) y;have k0:=cK F aa t0;have k1:=cK F aa t1;have bo:tb<Z.heap.size:=Nat.lt_of_lt_of_le aa F.size;(try(have kb:=(y.cell (p:=⟨w.heap.size+1,0,none⟩) (by simp)).trans (show _=some (Value.slice none 0 0) by simp);have kf:=(y.frozen (p:=⟨w.heap.size+1,0,none⟩) (by simp)).trans (show _=false by simp);have kz:w.heap.size+1<Z.heap.size:=by(have:=y.size;simp at this;omega)))))
   all_goals go_wp2_with fail
   all_goals go_meet
   ·have ae:QaC Z w.heap.size j:=fun k v hk=>(y.cell (p:=⟨w.heap.size,k,none⟩) (by simp)).trans (by simpa using J.out k v hk)
    exact⟨Z.heap.size,us,rfl,by simp,by simp,(own_mono (by simp) K).alloc _,(al.mono (by simp)).below (Qaa _ _),ae.below (Qaa _ _) (by have:=y.size;simp at this;omega),bel_box F _⟩
   ·have ae:QaC Z w.heap.size j:=fun k v hk=>(y.cell (p:=⟨w.heap.size,k,none⟩) (by simp;omega)).trans (by simpa using J.out k v hk)
    exact⟨w.heap.size+1,us,rfl,World.cell?_setCell_same _ _ _ kb,by simpa using kz,own_mono (by simp) (ownsRow_setCell_below K (by simp) _),(Qab.set al (by simp)).mono (by simp),fun k v hk=>(World.cell?_setCell_other _ _ _ _ (by intro e;simp at e)).trans (ae k v hk),F.setCell (by show w.heap.size<=w.heap.size+1;omega) _⟩
  case rest=>
   obtain⟨ab,us,rfl,bk,a8,V,hH,hJ,ac⟩:=hcut;have bi:=ac.size;have j1:wc.cell? ⟨w.heap.size,1,none⟩=some (.int .i64 4):=by have:=hJ 1 (.int .i64 j.code) rfl;rw[au.out.1] at this;exact this
   have j4:wc.cell? ⟨w.heap.size,4,none⟩=some (.slice (some ⟨nb,no,none⟩) D.length cc):=by have:=hJ 4 j.cols rfl;rw[au.out.2] at this;exact this
   have bh:=hJ.lt;have aL:=QbT V hH;have HB:=Hk (Ai ac (Ai V hH));obtain⟨xa,xc,rfl⟩:=own_slice V;clear ac V hH hJ aL aq J t0 t1;go_wp2_with (first|(go_at_call 131;refine(aP.out _ HB.out.1).mono ?_;rintro e Z ⟨v1,rfl,K,y⟩;obtain⟨ga,gc,rfl⟩:=own_slice K)|(go_at_call 144;refine(aH.out _ _ us _ _ _ (owns_below HB.out.2.1 y) (HB.out.2.2.below y) K (by have:=y.size;have:=HB.out.2.1.1;omega)).mono ?_;rintro e w2 ⟨aU,aV,rfl,q1,q2,aT,aW,aR⟩))
   go_ret3
   have bj:=y.size;have a0:aV=Qa8 ks rs:=Stb.sortL_is (Qjl ks) q1 q2;subst a0;exact⟨_,aU,rfl,own_mono (by omega) aT,aW.mono (by omega),(bel_then HB.out.1 y).trans (aR.mono (Nat.le_succ _))⟩
theorem Qkw (tb y tcap:Nat) (t:Tb) (j:Jb) (oa:Option Addr) (oc:Nat) (J:List ByteArray) (w:World) (h:j.code=4) (V:j.outs=.slice oa 1 oc) (hs:Qcl w j.cols J) (ht:QaX w tb y [t]) (I:tb<w.heap.size) (Z:Qgt t J=0):
 Calls Tryz.prog 61 #[.agg j.cells,.slice (some ⟨tb,y,none⟩) 1 tcap] w fun e w'=>∃g c,e=.returned (.tuple #[.slice (some ⟨g,0,none⟩) 1 c,.nilIface])/\w.heap.size<=g/\g<w'.heap.size/\QbP w' w.heap.size g [(t.1,Qa8 (Qaj t.1 J) t.2)]/\Below w.heap.size w w':=by
 have af:Qa1 j.code=(((1:Nat):Int),((1:Nat):Int)):=by rw[h];rfl
 obtain⟨hr,he⟩:=Qjh Z;obtain⟨U,ax,ah,aa⟩:=Qam hr;obtain⟨vc,vr,c0,c1,hc,ad⟩:=ht 0 (by simp);refine QdU tb y tcap [t] j w ht I (by simp) (by simp) (by intro x M;simp at M;rw[M];exact hr) t.1 (Qa8 (Qaj t.1 J) t.2) [] (by rw[QbG];exact ah) (Qbo hc) ?_ (fun W D=>?_)
 ·intro W B g K us D ho hh;obtain⟨b,o,c,N,H,F,O⟩:=Qcq ho hh U;refine cols_ok _ oa K oc j 1 1 t.1 W V af (by decide) (by decide) (fun W' hW'=>?_) (fun W' hW'=>QbC g 0 1 K b o t.1.length c t.1 j W' (Or.inr (Or.inr (Or.inr (Or.inl h)))) (by decide) (Nat.lt_of_lt_of_le H hW'.size) (cK hW' H N) rfl (by omega) (Nat.lt_of_lt_of_le F hW'.size) (O.below hW' F));have:=Qgx g 0 1 K b o t.1.length c t.1 J j W' h (by decide) (Nat.lt_of_lt_of_le H hW'.size) (cK hW' H N) ((hs.below D).below hW') rfl (by omega) (Nat.lt_of_lt_of_le F hW'.size) (O.below hW' F);rw[he] at this;exact this
 ·refine(QiN tb y 1 tcap vc vr t.1 t.2 j W J h (hs.below D) he (by decide) (Nat.lt_of_lt_of_le I D.size) ((D.cell (p:=⟨tb,y,none⟩) I).trans (by simpa using c0)) ((D.cell (p:=⟨tb,y+1,none⟩) I).trans (by simpa using c1)) (hc.below D) (ad.below D) U (by omega) aa (by omega)).mono ?_;rintro e w' ⟨v1,aj,h1,h2,h3,hb⟩;exact⟨v1,.slice none 0 0,aj,[],h1,by rw[QbG];exact h2,h3,World.ownsRow_nil _ _ _ _,Qab.nil _ _,hb⟩
end Go.Proofs.YtjlgejennghhlaaGreatDoor
