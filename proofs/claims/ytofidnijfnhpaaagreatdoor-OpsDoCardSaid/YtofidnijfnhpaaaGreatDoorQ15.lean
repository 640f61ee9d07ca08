import Derived.Test.YtofidnijfnhpaaaGreatDoorQ01
import Derived.Test.YtofidnijfnhpaaaGreatDoorQ14
import Derived.Test.YtofidnijfnhpaaaGreatDoorQ10
set_option linter.unusedSimpArgs false
set_option linter.unusedVariables false
set_option linter.unusedSectionVars false
set_option maxRecDepth 1000000
set_option maxHeartbeats 16000000
namespace Go.Proofs.YtofidnijfnhpaaaGreatDoor
open Go.RowKit
theorem QfG (a b:UInt8) (x y:List UInt8):Op.bytesLess (a::x) (b::y)=true↔a<b\/(a=b/\Op.bytesLess x y=true):=by simp[Op.bytesLess]
theorem Qjm:∀(l m:List UInt8),Op.bytesLess l m=true->Op.bytesLess m l=true->False
 |[],[],h,_=>by simp[Op.bytesLess] at h
 |[],_::_,_,h=>by simp[Op.bytesLess] at h
 |_::_,[],h,_=>by simp[Op.bytesLess] at h
 |c::r,d::q,h,k=>by
  rw[QfG] at h k
  rcases h with h|⟨rfl,h⟩
  ·rcases k with k|⟨rfl,k⟩
   ·exact absurd (UInt8.lt_trans h k) (UInt8.lt_irrefl _)
   ·exact UInt8.lt_irrefl _ h
  ·rcases k with k|⟨-,k⟩
   ·exact UInt8.lt_irrefl _ k
   ·exact Qjm r q h k
theorem Qlf:∀(l m:List UInt8),Op.bytesLess l m=false->Op.bytesLess m l=false->l=m
 |[],[],_,_=>rfl
 |[],_::_,h,_=>by simp[Op.bytesLess] at h
 |_::_,[],_,h=>by simp[Op.bytesLess] at h
 |c::r,d::q,h,k=>by
  have h':¬(c<d\/(c=d/\Op.bytesLess r q=true)):=fun e=>by rw[(QfG c d r q).2 e] at h;simp at h
  have k':¬(d<c\/(d=c/\Op.bytesLess q r=true)):=fun e=>by rw[(QfG d c q r).2 e] at k;simp at k
  have j:c=d:=by
   apply UInt8.toNat_inj.1
   have o:¬c.toNat<d.toNat:=fun e=>h' (Or.inl (UInt8.lt_iff_toNat_lt.2 e))
   have y:¬d.toNat<c.toNat:=fun e=>k' (Or.inl (UInt8.lt_iff_toNat_lt.2 e))
   omega
  subst j
  rw[Qlf r q (Qb6 fun e=>h' (Or.inr ⟨rfl,e⟩)) (Qb6 fun e=>k' (Or.inr ⟨rfl,e⟩))]
theorem QhY:∀(l m n:List UInt8),Op.bytesLess l m=true->Op.bytesLess m n=true->Op.bytesLess l n=true
 |[],[],_,h,_=>by simp[Op.bytesLess] at h
 |_::_,[],_,h,_=>by simp[Op.bytesLess] at h
 |_,_::_,[],_,h=>by simp[Op.bytesLess] at h
 |[],_::_,_::_,_,_=>by simp[Op.bytesLess]
 |a::x,b::y,c::z,h,k=>by
  rw[QfG] at h k⊢
  rcases h with h|⟨rfl,h⟩
  ·rcases k with k|⟨rfl,k⟩
   ·exact Or.inl (UInt8.lt_trans h k)
   ·exact Or.inl h
  ·rcases k with k|⟨rfl,k⟩
   ·exact Or.inl k
   ·exact Or.inr ⟨rfl,QhY x y z h k⟩
theorem Qgm {k n o z:Int} {l y:List UInt8} (h:QcJ k n l o z y=true):QcJ o z y k n l=false:=by
 apply Qb6
 intro j
 unfold QcJ at h j
 by_cases e:k=o
 ·subst e
  simp at h j
  split at h
  ·rename_i q;simp[q] at j;omega
  ·rename_i q;simp[q] at j;exact Qjm _ _ h j
 ·have e':¬o=k:=fun x=>e x.symm
  simp[e] at h;simp[e'] at j;omega
theorem Qjn {l m n:List UInt8} (h:Op.bytesLess l m=false) (j:Op.bytesLess m n=false):Op.bytesLess l n=false:=by
 cases e:Op.bytesLess l n with
 |false=>rfl
 |true=>
  cases e2:Op.bytesLess m l with
  |true=>exact absurd (QhY _ _ _ e2 e) (by rw[j];decide)
  |false=>
   have:=Qlf _ _ h e2
   subst this
   exact absurd e (by rw[j];decide)
theorem QmA:Stb.Ord Qa7 where
 asymm:=fun a b h=>Qgm h
 ntrans:=fun a b c h h'=>by
  unfold Qa7 QcJ at*
  by_cases e1:a.1=b.1
  ·by_cases e2:b.1=c.1
   ·have j:a.1=c.1:=e1.trans e2
    rw[if_neg (by simp[e1])] at h
    rw[if_neg (by simp[e2])] at h'
    rw[if_neg (by simp[j])]
    by_cases e4:a.1=1
    ·rw[if_pos (by simp[e4])] at h⊢
     rw[if_pos (by simp[<-e1,e4])] at h'
     simp only[decide_eq_false_iff_not,Int.not_lt] at*
     omega
    ·rw[if_neg (by simp[e4])] at h⊢
     rw[if_neg (by simp[<-e1,e4])] at h'
     exact Qjn h h'
   ·rw[if_pos (by simp[e2])] at h'
    rw[if_pos (by simp[e1,e2])]
    simp only[decide_eq_false_iff_not,Int.not_lt] at*
    omega
  ·rw[if_pos (by simp[e1])] at h
   simp only[decide_eq_false_iff_not,Int.not_lt] at h
   by_cases e2:b.1=c.1
   ·rw[if_pos (by simp;omega)]
    simp only[decide_eq_false_iff_not,Int.not_lt]
    omega
   ·rw[if_pos (by simp[e2])] at h'
    simp only[decide_eq_false_iff_not,Int.not_lt] at h'
    rw[if_pos (by simp;omega)]
    simp only[decide_eq_false_iff_not,Int.not_lt]
    omega
def vAt (r:List Vl) (k:Nat):Vl:=(r[k]?).getD (0,0,⟨#[]⟩)
def Qb2:List Nat->List Vl->List Vl->Int
 |[],_,_=>0
 |k::ks,x,y=>if Qa7 (vAt x k) (vAt y k)=true then-1 else if Qa7 (vAt y k) (vAt x k)=true then 1 else Qb2 ks x y
def ltR (ks:List Nat) (x y:List Vl):Bool:=decide (Qb2 ks x y<0)
theorem Qgn:∀(j:List Nat) (x y:List Vl),Qb2 j x y<0->¬Qb2 j y x<0
 |[],_,_,h=>absurd h (by simp[Qb2])
 |k::j,x,y,h=>by
  rw[Qb2] at h⊢
  by_cases h1:Qa7 (vAt x k) (vAt y k)=true
  ·rw[if_neg (by rw[QmA.asymm _ _ h1];decide),if_pos h1];decide
  ·rw[if_neg h1] at h
   by_cases h2:Qa7 (vAt y k) (vAt x k)=true
   ·rw[if_pos h2] at h;exact absurd h (by decide)
   ·rw[if_neg h2] at h
    rw[if_neg h2,if_neg h1]
    exact Qgn j x y h
theorem Qez:∀(j:List Nat) (x y z:List Vl),¬Qb2 j x y<0->¬Qb2 j y z<0->¬Qb2 j x z<0
 |[],_,_,_,_,_=>by simp[Qb2]
 |k::j,x,y,z,h,h'=>by
  rw[Qb2] at h h'⊢
  by_cases h1:Qa7 (vAt x k) (vAt y k)=true
  ·rw[if_pos h1] at h;exact absurd (by decide) h
  by_cases h2:Qa7 (vAt y k) (vAt z k)=true
  ·rw[if_pos h2] at h';exact absurd (by decide) h'
  have o:=Qb6 h1
  have q:=Qb6 h2
  rw[if_neg (by rw[QmA.ntrans _ _ _ o q];decide)]
  by_cases h3:Qa7 (vAt z k) (vAt x k)=true
  ·rw[if_pos h3];decide
  ·rw[if_neg h3]
   have D:=Qb6 h3
   have B:¬Qa7 (vAt y k) (vAt x k)=true:=by
    intro e
    exact h3 (QmA.le_lt q e)
   have A:¬Qa7 (vAt z k) (vAt y k)=true:=by
    intro e
    exact h3 (QmA.lt_le e o)
   rw[if_neg h1,if_neg B] at h
   rw[if_neg h2,if_neg A] at h'
   exact Qez j x y z h h'
theorem Qgo (j:List Nat):Stb.Ord (ltR j) where
 asymm:=fun x y h=>decide_eq_false (Qgn j x y (of_decide_eq_true h))
 ntrans:=fun x y z h h'=>decide_eq_false (Qez j x y z (of_decide_eq_false h) (of_decide_eq_false h'))
open Go.Sort in
theorem Qc3 (a b:Vl) (w:World):
 Calls Tryz.prog 92 #[.agg #[.int .i64 a.1,.int .i64 a.2.1,.string a.2.2],.agg #[.int .i64 b.1,.int .i64 b.2.1,.string b.2.2]] w fun e w'=>e=.returned (.bool (Qa7 a b))/\∃q os',w'=grow (w.drewN q) os':=by
 obtain⟨k,n,s⟩:=a
 obtain⟨y,z,A⟩:=b
 have h:∀o o':Obj,∃q os',(w.alloc o).alloc o'=grow (w.drewN q) os':=fun o o'=>⟨0,#[o]++#[o'],by rw[alloc_eq_grow,alloc_eq_grow,grow_grow];rfl⟩
 have j:=Hk h
 clear h
 unfold Qa7
 dsimp only
 go_enter Tryz.func92,Tryz.ntmps92
 go_wp2
 all_goals go_ret
 all_goals refine⟨Qal ?_,j.out _ _⟩
 all_goals simp_all [QcJ,ByteArray.toList_eq]
end Go.Proofs.YtofidnijfnhpaaaGreatDoor
namespace Go.Proofs.YtofidnijfnhpaaaGreatDoor
open Go.RowKit
open Go.Sort (grow)
theorem QbB {r:List Vl} {k:Nat} (h:k<r.length):vAt r k=r[k]:=by unfold vAt;rw[List.getElem?_eq_getElem h];rfl
theorem Qc4 (w:World) (q:Nat) (os:Array Obj):(grow (w.drewN q) os).heap.size=w.heap.size+os.size:=by rw[Go.Sort.size_grow];rfl
theorem QeA (o xo xc j yo yc ab ao ac pb:Nat) (x y:List Vl) (h:List Nat) (w:World) (ag:o<w.heap.size) (V:QaK w o xo x) (af:j<w.heap.size) (Z:QaK w j yo y) (aD:ab<w.heap.size) (hk:QbJ w ab ao h) (aY:pb<w.heap.size) (hp:w.cell? ⟨pb,0,none⟩=some (.slice (some ⟨ab,ao,none⟩) h.length ac)) (D:∀k∈h,k<x.length) (E:∀k∈h,k<y.length) (h6:h.length<=100) (aX:x.length<=100) (aW:y.length<=100):
 Calls Tryz.prog 97 #[.slice (some ⟨o,xo,none⟩) x.length xc,.slice (some ⟨j,yo,none⟩) y.length yc,.pointer (some ⟨pb,0,none⟩)] w fun e w'=>e=.returned (.int .i64 (Qb2 h x y))/\∃q os',w'=grow (w.drewN q) os':=by
 have aK:Tryz.prog.follows .mixedOrders=true:=by kernel_rfl
 have HX:Aside (QaK w o xo x/\QaK w j yo y/\QbJ w ab ao h/\(∀k∈h,k<x.length)/\∀k∈h,k<y.length):=⟨V,Z,hk,D,E⟩
 have H0:Aside (∃q os,w=grow (w.drewN q) os):=⟨0,#[],by rw[Go.Sort.grow_empty];rfl⟩
 clear V Z hk D E
 go_enter Tryz.func97,Tryz.ntmps97
 go_wp2
 go_loopg [10] h.length (fun g1 vi wr=>∃(k:Nat),vi=.int .i64 k/\k<=h.length/\h.length-k<=g1/\Aside (∃q os,wr=grow (w.drewN q) os)/\Aside (Qb2 h x y=Qb2 (h.drop k) x y))
 case atStart=>exact⟨0,rfl,Nat.zero_le _,by omega,H0,(show Qb2 h x y=Qb2 (h.drop 0) x y by rw[List.drop_zero])⟩
 case round=>
  clear H0
  obtain⟨k,rfl,aV,hg,HW,HC⟩:=hrel
  have aU:w.heap.size<=wr.heap.size:=by obtain⟨q,os,e⟩:=HW.out;rw[e,Qc4];omega
  have I:Aside (∀(a:Addr) (v:Value),a.block<w.heap.size->w.cell? a=some v->wr.cell? a=some v):=by
   intro a v h1 h2
   obtain⟨q,os,e⟩:=HW.out
   rw[e]
   exact cell_grown h1 h2 q os
  by_cases hlt:k<h.length
  ·obtain⟨p,F⟩:∃p,h[k]=p:=⟨_,rfl⟩
   obtain⟨V,Z,av,D,E⟩:=HX.out
   have au:p<x.length:=F▸D _ (List.getElem_mem hlt)
   have aw:p<y.length:=F▸E _ (List.getElem_mem hlt)
   have c0:wr.cell? ⟨ab,ao+k,none⟩=some (.int .i64 p):=I.out _ _ aD (by have:=av k hlt;rw[F] at this;exact this)
   obtain⟨e0,e1,e2⟩:=V p au
   obtain⟨f0,f1,f2⟩:=Z p aw
   have HR:Aside (Qb2 (h.drop k) x y=if Qa7 x[p] y[p]=true then-1 else if Qa7 y[p] x[p]=true then 1 else Qb2 (h.drop (k+1)) x y):=(show Qb2 (h.drop k) x y=_ by rw[List.drop_eq_getElem_cons hlt,Qb2,F,QbB au,QbB aw])
   generalize x[p]=a at*
   generalize y[p]=b at*
   have x0:=I.out _ _ (by exact ag) e0
   have x1:=I.out _ _ (by exact ag) e1
   have x2:=I.out _ _ (by exact ag) e2
   have y0:=I.out _ _ (by exact af) f0
   have y1:=I.out _ _ (by exact af) f1
   have y2:=I.out _ _ (by exact af) f2
   have T:=cell_grown (by show o<_;omega) x0
   have N:=cell_grown (by show o<_;omega) x1
   have O:=cell_grown (by show o<_;omega) x2
   have U:=cell_grown (by show j<_;omega) y0
   have M:=cell_grown (by show j<_;omega) y1
   have K:=cell_grown (by show j<_;omega) y2
   clear V Z av D E e0 e1 e2 f0 f1 f2 x0 x1 x2 y0 y1 y2 F
   cases hl1:Qa7 a b with
   |true=>
    have HV:Aside (Qb2 h x y= -1):=(show Qb2 h x y= -1 by rw[HC.out,HR.out,if_pos hl1])
    have z:Aside (∀W:World,Calls Tryz.prog 92 #[.agg #[.int .i64 a.1,.int .i64 a.2.1,.string a.2.2],.agg #[.int .i64 b.1,.int .i64 b.2.1,.string b.2.2]] W fun e w'=>e=.returned (.bool true)/\∃q os',w'=grow (W.drewN q) os'):=fun W=>by have:=Qc3 a b W;rw[hl1] at this;exact this
    clear hl1 HR HC
    go_wp2_with fail
    go_quiet_grown (first|(go_at_call 92;refine Calls.grown_of (z.out _)))
    have B:Aside (∃q os,grow (wr.drewN nq) osq=grow (w.drewN q) os):=by
     obtain⟨q,os,e⟩:=HW.out
     rw[e]
     exact⟨q+nq,os++osq,by show grow (grow ((w.drewN q).drewN nq) os) osq=_;rw[Go.Sort.grow_grow,World.drewN_drewN]⟩
    clear T N O U M K c0
    generalize grow (wr.drewN nq) osq=w2 at B⊢
    go_wp2
    go_ret
    exact⟨by rw[HV.out];rfl,B.out⟩
   |false=>
    have z:Aside (∀W:World,Calls Tryz.prog 92 #[.agg #[.int .i64 a.1,.int .i64 a.2.1,.string a.2.2],.agg #[.int .i64 b.1,.int .i64 b.2.1,.string b.2.2]] W fun e w'=>e=.returned (.bool false)/\∃q os',w'=grow (W.drewN q) os'):=fun W=>by have:=Qc3 a b W;rw[hl1] at this;exact this
    have J:Aside (Qb2 h x y=if Qa7 b a=true then 1 else Qb2 (h.drop (k+1)) x y):=(show Qb2 h x y=_ by rw[HC.out,HR.out,if_neg (by rw[hl1];decide)])
    clear hl1 HR HC
    go_wp2_with fail
    go_quiet_grown (first|(go_at_call 92;refine Calls.grown_of (z.out _)))
    have B:Aside (∃q os,grow (wr.drewN nq) osq=grow (w.drewN q) os):=by
     obtain⟨q,os,e⟩:=HW.out
     rw[e]
     exact⟨q+nq,os++osq,by show grow (grow ((w.drewN q).drewN nq) os) osq=_;rw[Go.Sort.grow_grow,World.drewN_drewN]⟩
    have aL:w.heap.size<=(grow (wr.drewN nq) osq).heap.size:=by rw[Qc4];omega
    have x0:=T nq osq
    have x1:=N nq osq
    have x2:=O nq osq
    have y0:=U nq osq
    have y1:=M nq osq
    have y2:=K nq osq
    clear T N O U M K c0 z
    generalize grow (wr.drewN nq) osq=w2 at*
    have T:=cell_grown (by show o<_;omega) x0
    have N:=cell_grown (by show o<_;omega) x1
    have O:=cell_grown (by show o<_;omega) x2
    have U:=cell_grown (by show j<_;omega) y0
    have M:=cell_grown (by show j<_;omega) y1
    have K:=cell_grown (by show j<_;omega) y2
    clear x0 x1 x2 y0 y1 y2 nq osq
    cases hl2:Qa7 b a with
    |true=>
     have HV:Aside (Qb2 h x y=1):=(show Qb2 h x y=1 by rw[J.out,if_pos hl2])
     have z:Aside (∀W:World,Calls Tryz.prog 92 #[.agg #[.int .i64 b.1,.int .i64 b.2.1,.string b.2.2],.agg #[.int .i64 a.1,.int .i64 a.2.1,.string a.2.2]] W fun e w'=>e=.returned (.bool true)/\∃q os',w'=grow (W.drewN q) os'):=fun W=>by have:=Qc3 b a W;rw[hl2] at this;exact this
     clear hl2 J
     go_wp2_with fail
     go_quiet_grown (first|(go_at_call 92;refine Calls.grown_of (z.out _)))
     have A:Aside (∃q os,grow (w2.drewN nq) osq=grow (w.drewN q) os):=by
      obtain⟨q,os,e⟩:=B.out
      rw[e]
      exact⟨q+nq,os++osq,by show grow (grow ((w.drewN q).drewN nq) os) osq=_;rw[Go.Sort.grow_grow,World.drewN_drewN]⟩
     clear T N O U M K
     generalize grow (w2.drewN nq) osq=w3 at A⊢
     go_wp2
     go_ret
     exact⟨by rw[HV.out];rfl,A.out⟩
    |false=>
     have HV:Aside (Qb2 h x y=Qb2 (h.drop (k+1)) x y):=(show Qb2 h x y=_ by rw[J.out,if_neg (by rw[hl2];decide)])
     have z:Aside (∀W:World,Calls Tryz.prog 92 #[.agg #[.int .i64 b.1,.int .i64 b.2.1,.string b.2.2],.agg #[.int .i64 a.1,.int .i64 a.2.1,.string a.2.2]] W fun e w'=>e=.returned (.bool false)/\∃q os',w'=grow (W.drewN q) os'):=fun W=>by have:=Qc3 b a W;rw[hl2] at this;exact this
     clear hl2 J
     go_wp2_with fail
     go_quiet_grown (first|(go_at_call 92;refine Calls.grown_of (z.out _)))
     have A:Aside (∃q os,grow (w2.drewN nq) osq=grow (w.drewN q) os):=by
      obtain⟨q,os,e⟩:=B.out
      rw[e]
      exact⟨q+nq,os++osq,by show grow (grow ((w.drewN q).drewN nq) os) osq=_;rw[Go.Sort.grow_grow,World.drewN_drewN]⟩
     clear T N O U M K
     generalize grow (w2.drewN nq) osq=w3 at A⊢
     go_wp2
     go_roundg (h.length-(k+1))
     case measure=>omega
     case rel=>exact⟨k+1,by go_num,by omega,Nat.le_refl _,A,HV⟩
  ·have aT:k=h.length:=by omega
   have aM:¬(k:Int)<(h.length:Int):=by omega
   go_wp2
   go_ret
   refine⟨?_,HW.out⟩
   rw[HC.out,List.drop_eq_nil_of_le (by omega)]
   rfl
end Go.Proofs.YtofidnijfnhpaaaGreatDoor
namespace Go.Proofs.YtofidnijfnhpaaaGreatDoor
open Go.RowKit
open Go.Sort (grow putRow putCells Holds)
namespace Stb
theorem eqv_cong {α:Type} {lt:α->α->Bool} (o:Ord lt) {x y:α} (h:eqv lt x y=true) (z:α):eqv lt x z=eqv lt y z:=by
 simp only[eqv,Bool.and_eq_true,Bool.not_eq_true'] at h
 have one:∀a b c:α,lt a b=false->lt b a=false->eqv lt a c=true->eqv lt b c=true:=by
  intro a b c q A j
  simp only[eqv,Bool.and_eq_true,Bool.not_eq_true'] at j⊢
  exact⟨o.ntrans _ _ _ A j.1,o.ntrans _ _ _ j.2 q⟩
 cases e:eqv lt y z with
 |true=>exact one y x z h.2 h.1 e
 |false=>
  cases e2:eqv lt x z with
  |false=>rfl
  |true=>exact absurd (one x y z h.1 h.2 e2) (by rw[e];decide)
theorem Same.map {α β:Type} {lt:β->β->Bool} (z:Ord lt) (f:α->β) {l y:List α} (h:Same (fun a b=>lt (f a) (f b)) l y):Same lt (l.map f) (y.map f):=by
 have ho':Ord (fun a b=>lt (f a) (f b)):=⟨fun a b=>z.asymm _ _,fun a b c=>z.ntrans _ _ _⟩
 intro x
 rw[List.filter_map,List.filter_map]
 congr 1
 by_cases hx:∃i∈l,eqv lt x (f i)=true
 ·obtain⟨i,-,o⟩:=hx
  have e:(eqv lt x∘f)=eqv (fun a b=>lt (f a) (f b)) i:=by
   funext j
   exact eqv_cong z o (f j)
  rw[e]
  exact h i
 ·have A:∀q:List α,(∀i∈q,i∈l)->q.filter (eqv lt x∘f)=[]:=fun q hq=>by
   rw[List.filter_eq_nil_iff]
   intro i o he
   exact hx ⟨i,hq i o,he⟩
  rw[A l (fun i o=>o),A y (fun i o=>(h.mem ho').2 o)]
theorem Sorted.map {α β:Type} {lt:β->β->Bool} (f:α->β) {l:List α} (h:Sorted (fun a b=>lt (f a) (f b)) l):Sorted lt (l.map f):=List.pairwise_map.2 h
end Stb
section
variable {α:Type} [Inhabited α] {enc:α->Value}
theorem heap_srt {w:World} {g n:Nat} {os:Array Obj} {h:Array Value} {e:TypeId} {o:Nat×Nat} (d:Array α) (j:w.heap[g]? =some (.cells h e o)):
 (grow (putRow enc (Go.Sort.ahead w n) g 0 d) os).heap[g]? =some (.cells (putCells enc 0 d h) e o):=by
 have q:g<w.heap.size:=(Array.getElem?_eq_some_iff.1 j).1
 rw[Go.Sort.heap_grow_old _ _ (by simpa using q)]
 simp[putRow,Go.Sort.mapBlock,Go.Sort.ahead,Array.getElem?_modify,j,Go.Sort.onCells]
theorem grown_srt {w:World} {g n:Nat} {os:Array Obj} (d:Array α):w.grownBy (grow (putRow enc (Go.Sort.ahead w n) g 0 d) os) (some g):=by
 refine⟨rfl,rfl,rfl,by simp,fun k hk hne=>?_⟩
 rw[Go.Sort.heap_grow_old _ _ (by simpa using hk)]
 have:g≠k:=fun e=>hne (by rw[e])
 simp[putRow,Go.Sort.mapBlock,Go.Sort.ahead,Array.getElem?_modify,this]
theorem take_srt (o:Array Value) (ts:List α) (h:ts.length<=o.size):(putCells enc 0 ts.toArray o).toList.take ts.length=ts.map enc:=by
 apply List.ext_getElem?
 intro j
 by_cases hj:j<ts.length
 ·rw[List.getElem?_take_of_lt hj,Array.getElem?_toList]
  simp[putCells,hj,show j<o.size by omega]
 ·rw[List.getElem?_take_eq_none (by omega),List.getElem?_eq_none (by simp;omega)]
theorem owns_srt {w:World} {base g h n k:Nat} {e:TypeId} {os:Array Obj} {j:Array Value} {ts:List α} (q:ts.length=k) (o:base<=g) (y:w.heap[g]? =some (.cells j e (0,0)))
 (A:k<=h) (B:h<=maxLen) (z:j.size=h*1):
 (grow (putRow enc (Go.Sort.ahead w n) g 0 ts.toArray) os).ownsRow base e 1 (.slice (some ⟨g,0,none⟩) k h) k (ts.map enc):=
 ⟨by simp[q],.inr ⟨g,h,_,rfl,o,heap_srt _ y,A,B,by simp[putCells,z],by rw[Nat.mul_one,<-q];exact take_srt j ts (by omega)⟩⟩
end
theorem Qkz (j h:Value) (w:World):Calls Tryz.prog 135 #[j,.int .i64 0,.int .i64 0,h] w fun e w'=>e=.returned (.tuple #[])/\w'=w:=by
 go_enter Tryz.func135,Tryz.ntmps135
 go_wp2
 go_loopg [8] 0 (fun g1 vi wr=>vi=.int .i64 1/\wr=w)
 case atStart=>exact⟨rfl,rfl⟩
 case round=>
  obtain⟨rfl,rfl⟩:=hrel
  go_wp2
  go_end0
  exact⟨rfl,rfl⟩
theorem Qhi (o j:Value) (w:World):Calls Tryz.prog 121 #[o,.int .i64 0,j] w fun e w'=>e=.returned (.tuple #[])/\w'=w:=by
 go_enter Tryz.func121,Tryz.ntmps121
 go_wp2
 go_loopg [7,8] 0 (fun g1 va vb wr=>va=.int .i64 0/\vb=.int .i64 20/\wr=w)
 case atStart=>exact⟨rfl,rfl,rfl⟩
 case round=>
  obtain⟨rfl,rfl,rfl⟩:=hrel
  go_wp2_with (go_at_call 135;refine(Qkz _ _ _).mono ?_;rintro e h ⟨rfl,rfl⟩)
  go_loopg [6] 0 (fun g1 va wr'=>va=.int .i64 20/\wr'=h)
  case atStart=>exact⟨rfl,rfl⟩
  case round=>
   obtain⟨rfl,rfl⟩:=hrel
   go_wp2
   go_end0
   exact⟨rfl,rfl⟩
theorem Qds (a:Option Addr) (c:Nat) (h:Value) (w:World):Calls Tryz.prog 96 #[.slice a 0 c,h] w fun e w'=>e=.returned (.tuple #[])/\w'=w:=by
 go_enter Tryz.func96,Tryz.ntmps96
 go_wp2_with (go_at_call 121;fail)
 refine(Qhi _ _ _).mono ?_
 rintro e j ⟨rfl,rfl⟩
 go_wp2
 go_end0
 exact⟨rfl,rfl⟩
end Go.Proofs.YtofidnijfnhpaaaGreatDoor
namespace Go.Proofs.YtofidnijfnhpaaaGreatDoor
open Go.RowKit
open Go.Sort (grow putRow putCells Holds)
theorem QhZ {w:World} {B:Nat} {u:Value} {r:List Vl} (h:w.ownsRow B 24 3 u r.length (Qai r)) (E:∀x∈r,x.2.2.size<=maxLen) (z:0<r.length):∃g c q,u=.slice (some ⟨g,0,none⟩) r.length c/\w.heap[g]? =some (.cells q 24 (0,0))/\g<w.heap.size/\QaK w g 0 r:=by
 have K:=Qb7 h E
 obtain⟨-,⟨-,M⟩|⟨g,A,q,rfl,N,I,M,O,-,-⟩⟩:=h
 ·omega
 obtain⟨a,c,e,-,j⟩:=K
 rcases j with j|⟨b,o,J,F,D⟩
 ·rw[j] at z;simp at z
 simp only[Value.slice.injEq] at e
 obtain⟨y,-,rfl⟩:=e
 rw[J] at y
 simp only[Option.some.injEq,Addr.mk.injEq] at y
 obtain⟨rfl,rfl,-⟩:=y
 exact⟨g,A,q,rfl,I,F,D⟩
theorem QaU {α:Type} [Inhabited α] (enc:α->Value) (w:World) (g m:Nat) (d:Array α) (os:Array Obj) (a:Addr) (h:a.block≠g) (j:a.block<w.heap.size):(sortWorld enc w g 0 m d os).cell? a=w.cell? a:=by
 unfold sortWorld
 rw[Go.Sort.cell?_grow _ _ _ (by simpa using j),Go.Sort.cell?_putRow_other _ _ _ _ _ _ (Or.inl h)]
 rfl
theorem Qiu (v y:Value) (us:List Value) (rs:List (List Vl)) (B B2 m:Nat) (A:List Nat) (w:World) (hv:w.ownsRow B 57 1 v rs.length us) (hH:Qac w B us rs) (hl:∀r∈rs,r.length=m) (h1:1<=m) (h6:m<=100) (bw:rs.length<=100) (U:w.ownsRow B2 3 1 y A.length (Qa5 A)) (aZ:0<A.length) (aT:A.length<=100) (aj:∀k∈A,k<m) (al:B<=w.heap.size):
 Calls Tryz.prog 70 #[v,y] w fun e I=>∃F D,e=.returned v/\Stb.Sorted (ltR A) D/\Stb.Same (ltR A) rs D/\I.ownsRow B 57 1 v rs.length F/\Qac I B F D/\Below B w I:=by
 have bu:=mkF
 obtain⟨aa,a6,rfl⟩:=Qae U
 obtain⟨y,ax⟩:∃q,q=Value.slice aa A.length a6:=⟨_,rfl⟩
 rw[<-ax] at U⊢
 have hS:∃a c,v=.slice a rs.length c/\Calls Tryz.prog 96 #[.slice a rs.length c,.func (.func 97) #[] #[.pointer (some ⟨w.heap.size,0,none⟩)]] (w.alloc (.cells #[y] 76)) fun e I=>e=.returned (.tuple #[])/\∃F D,Stb.Sorted (ltR A) D/\Stb.Same (ltR A) rs D/\I.ownsRow B 57 1 (.slice a rs.length c) rs.length F/\Qac I B F D/\Below B w I:=by
  obtain⟨ak,⟨rfl,o⟩|⟨g,O,ag,rfl,au,K,aQ,aG,aE,V⟩⟩:=hv
  ·refine⟨none,0,by rw[o],?_⟩
   rw[o]
   refine(Qds none 0 _ _).mono ?_
   rintro e I ⟨rfl,rfl⟩
   have Z:rs=[]:=List.length_eq_zero_iff.1 o
   refine⟨rfl,[],rs,by rw[Z];exact List.Pairwise.nil,Stb.Same.refl _ _,World.ownsRow_nil _ _ _ _,by rw[Z];exact Qac.nil _ _,(Below.refl _ _).alloc al _⟩
  ·refine⟨some ⟨g,0,none⟩,O,rfl,?_⟩
   have aJ:g<w.heap.size:=(Array.getElem?_eq_some_iff.1 K).1
   rcases Nat.eq_zero_or_pos rs.length with o|bt
   ·rw[o]
    refine(Qds _ O _ _).mono ?_
    rintro e I ⟨rfl,rfl⟩
    have Z:rs=[]:=List.length_eq_zero_iff.1 o
    have bx:us=[]:=List.length_eq_zero_iff.1 (by rw[ak,o])
    have ho:w.ownsRow B 57 1 (.slice (some ⟨g,0,none⟩) 0 O) 0 us:=⟨by rw[ak,o],.inr ⟨g,O,ag,by rw[<-o],au,K,by omega,aG,aE,by rw[o] at V;exact V⟩⟩
    exact⟨rfl,us,rs,by rw[Z];exact List.Pairwise.nil,Stb.Same.refl _ _,ho.alloc _,hH.below (Qab _ _),(Below.refl _ _).alloc al _⟩
   ·obtain⟨n,o⟩:∃n,rs.length=n+1:=⟨rs.length-1,by omega⟩
    have J:us.length=n+1:=by rw[ak,o];omega
    have aH:∀k,k<w.heap.size->(w.alloc (.cells #[y] 76)).heap[k]? =w.heap[k]?:=(Qab w _).block
    let enc:Fin (n+1)->Value:=fun i=>us[i.1]'(by rw[J];exact i.2)
    let row:Fin (n+1)->List Vl:=fun i=>rs[i.1]'(by rw[o];exact i.2)
    let cf:Fin (n+1)->Fin (n+1)->Int:=fun i j=>Qb2 A (row i) (row j)
    have M:∀i:Fin (n+1),∃b c cu,enc i=.slice (some ⟨b,0,none⟩) (row i).length c/\w.heap[b]? =some (.cells cu 24 (0,0))/\b<w.heap.size/\QaK w b 0 (row i)/\(row i).length=m/\b≠g:=by
     intro i
     have hi:i.1<rs.length:=by rw[o];exact i.2
     have ap:(row i).length=m:=hl _ (List.getElem_mem hi)
     obtain⟨b,c,cu,q1,q2,q3,q4⟩:=QhZ (hH.2 i.1 (by rw[J];exact i.2) hi).1 (hH.2 i.1 (by rw[J];exact i.2) hi).2 (by have:rs[i.1].length=m:=ap;omega)
     refine⟨b,c,cu,q1,q2,q3,q4,ap,?_⟩
     rintro rfl
     rw[K] at q2
     simp at q2
    have af:(List.finRange (n+1)).length=rs.length:=by rw[List.length_finRange,o]
    have bA:(List.finRange (n+1)).map enc=us:=by
     refine List.ext_getElem (by simp[J]) fun k h1 h2=>?_
     simp[enc]
    have bb:(List.finRange (n+1)).map row=rs:=by
     refine List.ext_getElem (by simp[o]) fun k h1 h2=>?_
     simp[row]
    have hO:OneCell enc:=by
     intro i
     obtain⟨b,c,cu,q1,-⟩:=M i
     rw[q1];rfl
    have bd:Holds enc (w.alloc (.cells #[y] 76)) g 0 (List.finRange (n+1)).toArray:=by
     intro j T
     have hj':j<rs.length:=by rw[<-af];simpa using T
     have hh:(w.alloc (.cells #[y] 76)).heap[g]? =some (.cells ag 57 (0,0)):=(aH g aJ).trans K
     refine⟨?_,by simp[World.frozen?,hh]⟩
     have h1:(ag.toList.take rs.length)[j]? =us[j]?:=by rw[Nat.mul_one] at V;rw[V]
     rw[List.getElem?_take_of_lt hj'] at h1
     simp only[World.cell?,hh,Nat.zero_add]
     simp only[Option.isSome_none,Bool.false_eq_true,if_false]
     rw[<-Array.getElem?_toList,h1,List.getElem?_eq_getElem (by rw[J];omega)]
     simp[enc,getElem!_pos,show j<n+1 by omega]
    have hR:Row1 enc (w.alloc (.cells #[y] 76)) g 0 (List.finRange (n+1)).toArray:=⟨hO,bd,by simp;omega⟩
    obtain⟨ab,ac,aI,-,aS,a4⟩:=Qey U aZ
    have a8:ab≠g:=by
     obtain⟨-,⟨-,h0⟩|⟨g',bg,bh,ar,-,ao,-,-,-,-⟩⟩:=U
     ·omega
     rw[aI] at ar
     simp only[Value.slice.injEq,Option.some.injEq,Addr.mk.injEq] at ar
     obtain⟨⟨rfl,-⟩,-,-⟩:=ar
     rintro rfl
     rw[K] at ao
     simp at ao
    have aO:CmpLays1 Tryz.prog 97 #[.pointer (some ⟨w.heap.size,0,none⟩)] enc cf g 0 (List.finRange (n+1)).toArray.size (w.alloc (.cells #[y] 76)):=by
     intro q os dk bv i j
     obtain⟨b,c,cu,e1,e2,e3,e4,e5,e6⟩:=M i
     obtain⟨b',c',bz,f1,f2,f3,f4,f5,f6⟩:=M j
     have E:∀a:Addr,a.block≠g->a.block<w.heap.size->(sortWorld enc (w.alloc (.cells #[y] 76)) g 0 q dk os).cell? a=w.cell? a:=fun a h h'=>(QaU enc _ g q dk os a h (by simp;omega)).trans ((Qab w _).cell h')
     have hsz:w.heap.size+1<=(sortWorld enc (w.alloc (.cells #[y] 76)) g 0 q dk os).heap.size:=by unfold sortWorld;simp
     have a5:(sortWorld enc (w.alloc (.cells #[y] 76)) g 0 q dk os).cell? ⟨w.heap.size,0,none⟩=some (.slice (some ⟨ab,0,none⟩) A.length ac):=by
      rw[QaU enc _ g q dk os _ (by show w.heap.size≠g;omega) (by simp),<-aI]
      simp
     have hh:=QeA b 0 c b' 0 c' ab 0 ac w.heap.size (row i) (row j) A (sortWorld enc (w.alloc (.cells #[y] 76)) g 0 q dk os) (by omega) (fun k N=>by obtain⟨z0,z1,z2⟩:=e4 k N;exact⟨(E _ e6 e3).trans z0,(E _ e6 e3).trans z1,(E _ e6 e3).trans z2⟩) (by omega) (fun k N=>by obtain⟨z0,z1,z2⟩:=f4 k N;exact⟨(E _ f6 f3).trans z0,(E _ f6 f3).trans z1,(E _ f6 f3).trans z2⟩) (by omega) (fun k N=>(E _ a8 aS).trans (a4 k N)) (by omega) a5 (by rw[e5];exact aj) (by rw[f5];exact aj) aT (by omega) (by omega)
     rw[e1,f1]
     exact hh
    have ho:Stb.Ord (ltOf cf):=⟨fun a b h=>(Qgo A).asymm _ _ h,fun a b c h h'=>(Qgo A).ntrans _ _ _ h h'⟩
    refine(Stb.sortStable_any enc cf 97 #[.pointer (some ⟨w.heap.size,0,none⟩)] g 0 O rs.length (List.finRange (n+1)) (w.alloc (.cells #[y] 76)) ?eg aO ho hR af (by omega)).mono ?_
    case eg=>intro args W;first|rfl|kernel_rfl
    rintro e I ⟨rfl,l,s1,s2,aw⟩
    refine⟨rfl,l.map enc,l.map row,Stb.Sorted.map row s1,?_,?_,?_,?_⟩
    ·have:=Stb.Same.map (Qgo A) row s2
     rw[bb] at this
     exact this
    ·obtain⟨q,os,rfl⟩:=aw
     have aU:l.length=rs.length:=by rw[<-s2.len ho,af]
     unfold sortWorld
     exact owns_srt aU au ((aH g aJ).trans K) aQ aG aE
    ·obtain⟨q,os,rfl⟩:=aw
     refine⟨by simp,fun j T hj'=>?_⟩
     simp only[List.getElem_map]
     have hi:(l[j]'(by simpa using T)).1<rs.length:=by rw[o];exact(l[j]'(by simpa using T)).2
     have N:=hH.2 (l[j]'(by simpa using T)).1 (by rw[J];exact(l[j]'(by simpa using T)).2) hi
     obtain⟨b,c,cu,e1,e2,e3,e4,e5,e6⟩:=M (l[j]'(by simpa using T))
     refine⟨(N.1.alloc _).kept (grown_srt (enc:=enc) (n:=q) (os:=os) l.toArray) ?_,N.2⟩
     refine Or.inr ?_
     show(enc (l[j]'(by simpa using T))).ownBlock≠_
     rw[e1]
     show some b≠some g
     intro e
     exact e6 (Option.some.inj e)
    ·obtain⟨q,os,rfl⟩:=aw
     have aY:Below B w (w.alloc (.cells #[y] 76)):=(Below.refl _ _).alloc al _
     have aW:=grown_srt (enc:=enc) (w:=w.alloc (.cells #[y] 76)) (g:=g) (n:=q) (os:=os) l.toArray
     exact aY.grown aW (by simp;omega) (fun z hz=>by cases hz;exact au)
 obtain⟨a,c,rfl,hS⟩:=hS
 subst ax
 have HS:=Hk hS
 clear hS hv hH hl aj U
 go_enter Tryz.func70,Tryz.ntmps70
 go_wp2_with (go_at_call 96;fail)
 refine HS.out.mono ?_
 rintro e w2 ⟨rfl,hq⟩
 have HF:=Hk hq
 clear hq
 go_wp2
 go_ret
 obtain⟨F,D,q1,q2,q3,q4,q5⟩:=HF.out
 exact⟨F,D,rfl,q1,q2,q3,q4,q5⟩
end Go.Proofs.YtofidnijfnhpaaaGreatDoor
namespace Go.Proofs.YtofidnijfnhpaaaGreatDoor
open Go.RowKit
namespace Stb
variable {α:Type}
def insL (lt:α->α->Bool) (x:α):List α->List α
 |[]=>[x]
 |y::l=>if lt x y=true then x::y::l else y::insL lt x l
def sortL (lt:α->α->Bool) (l:List α):List α:=l.foldl (fun acc x=>insL lt x acc) []
theorem insL_mem {lt:α->α->Bool} {x z:α}:∀{l:List α},z∈insL lt x l->z=x\/z∈l
 |[],h=>by simp[insL] at h;exact Or.inl h
 |y::l,h=>by
  unfold insL at h
  split at h
  ·rcases List.mem_cons.1 h with h|h
   ·exact Or.inl h
   ·exact Or.inr h
  ·rcases List.mem_cons.1 h with h|h
   ·exact Or.inr (by simp[h])
   ·rcases insL_mem h with h|h
    ·exact Or.inl h
    ·exact Or.inr (by simp[h])
theorem insL_ok {lt:α->α->Bool} (A:Ord lt) (x:α):∀(l:List α),Sorted lt l->Sorted lt (insL lt x l)/\Same lt (l++[x]) (insL lt x l)
 |[],_=>⟨List.pairwise_singleton _ _,Same.refl _ _⟩
 |y::l,h=>by
  obtain⟨B,F⟩:=List.pairwise_cons.1 h
  unfold insL
  by_cases o:lt x y=true
  ·rw[if_pos o]
   have q:∀z∈y::l,lt x z=true:=fun z j=>by
    rcases List.mem_cons.1 j with rfl|j
    ·exact o
    ·exact A.lt_le o (B z j)
   refine⟨List.pairwise_cons.2 ⟨fun z j=>A.asymm _ _ (q z j),h⟩,?_⟩
   exact Same.swap A (X:=y::l) (Y:=[x]) (fun z j u hu=>by simp at hu;subst hu;exact q z j)
  ·rw[if_neg o]
   obtain⟨E,D⟩:=insL_ok A x l F
   have hx':lt x y=false:=by cases e:lt x y with |false=>rfl|true=>exact absurd e o
   refine⟨List.pairwise_cons.2 ⟨fun z j=>?_,E⟩,?_⟩
   ·rcases insL_mem j with rfl|j
    ·exact hx'
    ·exact B z j
   ·exact(Same.refl lt [y]).app D
theorem sortL_ok {lt:α->α->Bool} (y:Ord lt) (l:List α):Sorted lt (sortL lt l)/\Same lt l (sortL lt l):=by
 have q:∀(l h p:List α),Sorted lt h->Same lt p h->Sorted lt (l.foldl (fun h x=>insL lt x h) h)/\Same lt (p++l) (l.foldl (fun h x=>insL lt x h) h):=by
  intro l
  induction l with
  |nil=>intro h p j o;exact⟨j,by simpa using o⟩
  |cons x l ih=>
   intro h p j o
   obtain⟨A,z⟩:=insL_ok y x h j
   have:=ih (insL lt x h) (p++[x]) A ((o.app (Same.refl lt [x])).trans z)
   simpa using this
 have:=q l [] [] List.Pairwise.nil (Same.refl _ _)
 rw[List.nil_append] at this
 exact this
theorem sortL_is {lt:α->α->Bool} (h:Ord lt) {l j:List α} (o:Sorted lt j) (q:Same lt l j):j=sortL lt l:=
 sorted_one h o (sortL_ok h l).1 (q.symm.trans (sortL_ok h l).2)
theorem sortL_len {lt:α->α->Bool} (h:Ord lt) (l:List α):(sortL lt l).length=l.length:=((sortL_ok h l).2.len h).symm
theorem sortL_mem {lt:α->α->Bool} (h:Ord lt) {l:List α} {x:α}:x∈sortL lt l↔x∈l:=((sortL_ok h l).2.mem h).symm
end Stb
def QaR (ks:List Nat) (rs:List (List Vl)):List (List Vl):=Stb.sortL (ltR ks) rs
theorem Qb1 (h:List Nat) (rs:List (List Vl)):(QaR h rs).length=rs.length:=Stb.sortL_len (Qgo h) rs
theorem Qfd (A N z D b o n c:Nat) (cs:List Cl) (ss:List ByteArray) (j:Jb) (w:World) (h:j.code=4) (U:0<z) (V:A<w.heap.size) (Z:w.cell? ⟨A,N,none⟩=some (.slice (some ⟨b,o,none⟩) n c)) (J:QaX w j.cols ss)
 (I:cs.length=n) (F:n<=100) (K:b<w.heap.size) (M:Qas w b o cs):
 Calls Tryz.prog 26 #[.agg j.cells,.slice (some ⟨A,N,none⟩) z D] w fun e w'=>e=.returned (Qbp (QaB cs ss))/\Below w.heap.size w w':=by
 have y:=fun W (B:Below w.heap.size w W)=>Qdr j.cols .nilIface ss b o n c cs W (J.below B) I F (by have:=B.size;omega) (M.below B K)
 obtain⟨ca,cc,E,-⟩:=J
 unfold Jb.cells
 rw[E] at y⊢
 generalize QaB cs ss=r at*
 obtain⟨code,q⟩:∃k,j.code=k:=⟨_,rfl⟩
 rw[q] at h⊢
 clear q
 subst h
 have T:=Hk y
 have htk':(0:Int)<(z:Int):=by omega
 clear y I M E
 go_enter Tryz.func26,Tryz.ntmps26
 go_wp2_with (go_at_call 47;refine(T.out _ (Qab _ _)).mono ?_;rintro e w1 ⟨rfl,O⟩)
 go_ret
 exact⟨rfl,Qaa (Qab _ _) O⟩
theorem Qhj (A y tk tcap:Nat) (vc vr:Value) (cs:List Cl) (rs:List (List Vl)) (j:Jb) (w:World) (ss:List ByteArray) (z:j.code=4) (hs:QaX w j.cols ss) (he:QaB cs ss=0) (bj:0<tk) (U:A<w.heap.size) (t0:w.cell? ⟨A,y,none⟩=some vc) (t1:w.cell? ⟨A,y+1,none⟩=some vr)
 (hc:Qav w vc cs) (hr:QaC w vr rs) (F:1<=cs.length) (h6:cs.length<=100) (hl:∀r∈rs,r.length=cs.length) (ao:rs.length<=100):
 Calls Tryz.prog 40 #[.agg j.cells,.slice (some ⟨A,y,none⟩) tk tcap] w fun e w'=>∃v1 us1,e=.returned (.tuple #[v1,.slice none 0 0,.nilIface])/\w'.ownsRow w.heap.size 57 1 v1 rs.length us1/\Qac w' w.heap.size us1 (QaR (Qag cs ss) rs)/\Below w.heap.size w w':=by
 have bm:=mkF
 have am:=Hk (fun W (hW:Below w.heap.size w W)=>Qba vr rs cs.length W (hr.below hW) hl F h6 ao)
 obtain⟨l0,l6,I⟩:=Qcb he
 obtain⟨ca,cc,hj,ar,aO,K⟩:=hs
 rcases K with h|⟨nb,no,rfl,aG,K⟩
 ·rw[h] at l0;simp at l0
 obtain⟨cb,co,J,aS,aA,V⟩:=Qcp hc F
 have ai:(Qag cs ss).length=ss.length:=by simp[Qag]
 have ah:=fun W (F:Below w.heap.size w W)=>Qdq nb no cc cb co cs.length J ss.length ss (Qag cs ss) cs W rfl (by omega) (by have:=F.size;omega) (K.below F aG) rfl h6 (by have:=F.size;omega) (V.below F aA) ai (QcP I)
 have al:=fun(v av:Value) (us:List Value) (B B2:Nat) W (M:W.ownsRow B 57 1 v rs.length us) (hH:Qac W B us rs) (hi:W.ownsRow B2 3 1 av (Qag cs ss).length (Qa5 (Qag cs ss))) (hB:B<=W.heap.size)=>Qiu v av us rs B B2 cs.length (Qag cs ss) W M hH hl F h6 ao hi (by omega) (by omega) (Qbu I) hB
 have ag:0<(Qag cs ss).length:=by omega
 generalize aM:Qag cs ss=ks at*
 have aP:=Hk ah
 have aV:=Hk al
 have HK:=Hk ag
 clear ah al ai I l0 l6 he aM ag K ar aO
 have htk':(0:Int)<(tk:Int):=by omega
 clear hl
 subst aS
 clear hc V
 obtain⟨ra,aJ,rfl,-⟩:=hr
 have af:Qaz (w.alloc (.cells j.cells 28)) w.heap.size j:=fun k v hk=>by rw[World.cell?_alloc_at _ _ _ _ rfl];exact hk
 have E:=Hk af
 clear af
 unfold Jb.cells at E⊢
 rw[z,hj] at E⊢
 have aj:=Hk (Ai z hj)
 clear z hj
 all_goals
  go_enter Tryz.func40,Tryz.ntmps40
  go_wp2_with fail
  go_cut [7,8] (fun p v wx=>∃(ab:Nat) (us:List Value),p=.pointer (some ⟨ab,0,none⟩)/\wx.cell? ⟨ab,0,none⟩=some (.slice (some ⟨cb,co,none⟩) cs.length J)/\ab<wx.heap.size/\wx.ownsRow (w.heap.size+1) 57 1 v rs.length us/\Qac wx (w.heap.size+1) us rs/\Qaz wx w.heap.size j/\Below w.heap.size w wx)
  case first=>
   go_region_held3 (fun w'=>w'.cell? ⟨A,y,none⟩=some (.slice (some ⟨cb,co,none⟩) cs.length J)/\w'.cell? ⟨A,y+1,none⟩=some (.slice ra rs.length aJ))
    (first|(go_keep;done)|exact⟨(World.cell?_setCell_other _ _ _ _ (by intro e;simp at e;try omega)).trans k0,(World.cell?_setCell_other _ _ _ _ (by intro e;simp at e;try omega)).trans k1⟩)
    (first|(go_at_call 63;refine(am.out _ (by first|exact(Qab _ _).drew|exact(Qad (Qab _ _) _).drew)).mono ?_;rintro e N ⟨v1,us,rfl,D,ak,o⟩;have q:=Qaa (show Below w.heap.size w _ from(by first|exact(Qab _ _).drew|exact(Qad (Qab _ _) _).drew)) o;have k0:=cK q U t0;have k1:=cK q U t1;have bh:A<N.heap.size:=Nat.lt_of_lt_of_le U q.size;(try(have kb:=(o.cell (p:=⟨w.heap.size+1,0,none⟩) (by simp)).trans (show _=some (Value.slice none 0 0) by simp);have kf:=(o.frozen (p:=⟨w.heap.size+1,0,none⟩) (by simp)).trans (show _=false by simp);have kz:w.heap.size+1<N.heap.size:=by(have:=o.size;simp at this;omega)))))
   all_goals go_wp2_with fail
   all_goals go_meet
   ·have T:Qaz N w.heap.size j:=fun k v hk=>(o.cell (p:=⟨w.heap.size,k,none⟩) (by simp)).trans (by simpa using E.out k v hk)
    exact⟨N.heap.size,us,rfl,by simp,by simp,(Qam (by simp) D).alloc _,(ak.mono (by simp)).below (Qab _ _),T.below (Qab _ _) (by have:=o.size;simp at this;omega),Qad q _⟩
   ·have T:Qaz N w.heap.size j:=fun k v hk=>(o.cell (p:=⟨w.heap.size,k,none⟩) (by simp;omega)).trans (by simpa using E.out k v hk)
    exact⟨w.heap.size+1,us,rfl,World.cell?_setCell_same _ _ _ kb,by simpa using kz,Qam (by simp) (ownsRow_setCell_below D (by simp) _),(Qac.set ak (by simp)).mono (by simp),fun k v hk=>(World.cell?_setCell_other _ _ _ _ (by intro e;simp at e)).trans (T k v hk),q.setCell (by show w.heap.size<=w.heap.size+1;omega) _⟩
  case rest=>
   obtain⟨ab,us,rfl,bk,bg,M,hH,hJ,O⟩:=hcut
   have bl:=O.size
   have j1:wc.cell? ⟨w.heap.size,1,none⟩=some (.int .i64 4):=by have:=hJ 1 (.int .i64 j.code) rfl;rw[aj.out.1] at this;exact this
   have j4:wc.cell? ⟨w.heap.size,4,none⟩=some (.slice (some ⟨nb,no,none⟩) ss.length cc):=by have:=hJ 4 j.cols rfl;rw[aj.out.2] at this;exact this
   have bn:=hJ.lt
   have aD:=QbA M hH
   have Z:=Hk (Ai O (Ai M hH))
   obtain⟨xa,xc,rfl⟩:=Qae M
   clear O M hH hJ aD am E t0 t1
   go_wp2_with (first|(go_at_call 52;refine(aP.out _ Z.out.1).mono ?_;rintro e N ⟨v1,rfl,D,o⟩;obtain⟨ga,gc,rfl⟩:=Qae D)|(go_at_call 70;refine(aV.out _ _ us _ _ _ (Qaf Z.out.2.1 o) (Z.out.2.2.below o) D (by have:=o.size;have:=Z.out.2.1.1;omega)).mono ?_;rintro e w2 ⟨aQ,aY,rfl,q1,q2,aT,aL,aK⟩))
   go_ret3
   have bi:=o.size
   have aR:aY=QaR ks rs:=Stb.sortL_is (Qgo ks) q1 q2
   subst aR
   exact⟨_,aQ,rfl,Qam (by omega) aT,aL.mono (by omega),(Qaa Z.out.1 o).trans (aK.mono (Nat.le_succ _))⟩
theorem Qiv (z q tcap:Nat) (t:Tb) (j:Jb) (T:Option Addr) (Z:Nat) (ss:List ByteArray) (w:World) (h:j.code=4) (O:j.outs=.slice T 1 Z) (hs:QaX w j.cols ss) (ht:Qa0 w z q [t]) (D:z<w.heap.size) (ag:Qfb t ss=0):
 Calls Tryz.prog 14 #[.agg j.cells,.slice (some ⟨z,q,none⟩) 1 tcap] w fun e I=>∃g c,e=.returned (.tuple #[.slice (some ⟨g,0,none⟩) 1 c,.nilIface])/\w.heap.size<=g/\g<I.heap.size/\QbR I w.heap.size g [(t.1,QaR (Qag t.1 ss) t.2)]/\Below w.heap.size w I:=by
 have ad:QaP j.code=(((1:Nat):Int),((1:Nat):Int)):=by rw[h];rfl
 obtain⟨hr,he⟩:=QhX ag
 obtain⟨N,au,ab,af⟩:=Qar hr
 obtain⟨vc,vr,c0,c1,hc,U⟩:=ht 0 (by simp)
 refine Qex z q tcap [t] j w ht D (by simp) (by simp) (by intro x K;simp at K;rw[K];exact hr) t.1 (QaR (Qag t.1 ss) t.2) [] (by rw[Qb1];exact ab) (QbI hc) ?_ (fun W y=>?_)
 ·intro W B g F us y ho hh
  obtain⟨b,o,c,M,A,E,J⟩:=Qcy ho hh N
  refine Qde _ T F Z j 1 1 t.1 W O ad (by decide) (by decide) (fun W' hW'=>?_) (fun W' hW'=>Qa4 g 0 1 F b o t.1.length c t.1 j W' (Or.inr (Or.inr (Or.inr (Or.inl h)))) (by decide) (Nat.lt_of_lt_of_le A hW'.size) (cK hW' A M) rfl (by omega) (Nat.lt_of_lt_of_le E hW'.size) (J.below hW' E))
  have:=Qfd g 0 1 F b o t.1.length c t.1 ss j W' h (by decide) (Nat.lt_of_lt_of_le A hW'.size) (cK hW' A M) ((hs.below y).below hW') rfl (by omega) (Nat.lt_of_lt_of_le E hW'.size) (J.below hW' E)
  rw[he] at this
  exact this
 ·refine(Qhj z q 1 tcap vc vr t.1 t.2 j W ss h (hs.below y) he (by decide) (Nat.lt_of_lt_of_le D y.size) ((y.cell (p:=⟨z,q,none⟩) D).trans (by simpa using c0)) ((y.cell (p:=⟨z,q+1,none⟩) D).trans (by simpa using c1)) (hc.below y) (U.below y) N (by omega) af (by omega)).mono ?_
  rintro e I ⟨v1,V,h1,h2,h3,hb⟩
  exact⟨v1,.slice none 0 0,V,[],h1,by rw[Qb1];exact h2,h3,World.ownsRow_nil _ _ _ _,Qac.nil _ _,hb⟩
end Go.Proofs.YtofidnijfnhpaaaGreatDoor
