import Derived.Shelf.SlSortCmp.Kit1
import Derived.Sort.WalkA
import Derived.Sort.WalkB2
import Derived.Sort.WalkB12
import Derived.Deep.LoopGhost
import Derived.Test.YtofidnijfnhpaaaGreatDoorQ01
set_option linter.unusedSimpArgs false
set_option linter.unusedVariables false
set_option linter.unusedSectionVars false
set_option maxRecDepth 1000000
set_option maxHeartbeats 16000000
namespace Go.Proofs.YtofidnijfnhpaaaGreatDoor
namespace Stb
variable {α:Type}
structure Ord (lt:α->α->Bool):Prop where
 asymm:∀a b,lt a b=true->lt b a=false
 ntrans:∀a b c,lt a b=false->lt b c=false->lt a c=false
theorem Ord.irr {lt:α->α->Bool} (h:Ord lt) (a:α):lt a a=false:=by
 cases e:lt a a with
 |false=>rfl
 |true=>exact(h.asymm a a e).symm.trans e|>.symm▸rfl
theorem Ord.lt_le {lt:α->α->Bool} (h:Ord lt) {a b c:α} (j:lt a b=true) (o:lt c b=false):lt a c=true:=by
 cases e:lt a c with
 |true=>rfl
 |false=>exact absurd (h.ntrans a c b e o) (by rw[j];decide)
theorem Ord.le_lt {lt:α->α->Bool} (h:Ord lt) {a b c:α} (j:lt b a=false) (o:lt b c=true):lt a c=true:=by
 cases e:lt a c with
 |true=>rfl
 |false=>exact absurd (h.ntrans b a c j e) (by rw[o];decide)
def eqv (lt:α->α->Bool) (x y:α):Bool:= !lt x y&& !lt y x
def Sorted (lt:α->α->Bool) (l:List α):Prop:=l.Pairwise (fun a b=>lt b a=false)
def Same (lt:α->α->Bool) (l l':List α):Prop:=∀x,l.filter (eqv lt x)=l'.filter (eqv lt x)
theorem Same.refl (lt:α->α->Bool) (l:List α):Same lt l l:=fun _=>rfl
theorem Same.trans {lt:α->α->Bool} {a b c:List α} (h:Same lt a b) (j:Same lt b c):Same lt a c:=fun x=>(h x).trans (j x)
theorem Same.symm {lt:α->α->Bool} {a b:List α} (h:Same lt a b):Same lt b a:=fun x=>(h x).symm
theorem Same.app {lt:α->α->Bool} {a b c d:List α} (h:Same lt a b) (j:Same lt c d):Same lt (a++c) (b++d):=fun x=>by rw[List.filter_append,List.filter_append,h x,j x]
theorem eqv_self {lt:α->α->Bool} (h:Ord lt) (x:α):eqv lt x x=true:=by simp[eqv,h.irr]
theorem Same.mem {lt:α->α->Bool} (o:Ord lt) {a b:List α} (h:Same lt a b) {x:α}:x∈a↔x∈b:=by
 have j:∀l:List α,x∈l↔x∈l.filter (eqv lt x):=fun l=>by rw[List.mem_filter];exact⟨fun h=>⟨h,eqv_self o x⟩,fun h=>h.1⟩
 rw[j a,j b,h x]
theorem Same.swap {lt:α->α->Bool} (B:Ord lt) {X Y:List α} (h:∀x∈X,∀y∈Y,lt y x=true):Same lt (X++Y) (Y++X):=by
 intro z
 rw[List.filter_append,List.filter_append]
 by_cases hx:X.filter (eqv lt z)=[]
 ·rw[hx];simp
 ·have D:Y.filter (eqv lt z)=[]:=by
   obtain⟨x,j⟩:=List.exists_mem_of_ne_nil _ hx
   rw[List.mem_filter] at j
   rw[List.filter_eq_nil_iff]
   intro y q o
   have E:=h x j.1 y q
   have A:=j.2
   simp only[eqv,Bool.and_eq_true,Bool.not_eq_true'] at A o
   --lt y z=false,lt z x=false->lt y x=false
   exact absurd (B.ntrans y z x o.2 A.1) (by rw[E];decide)
  rw[D];simp
theorem Sorted.app {lt:α->α->Bool} {X Y:List α}:Sorted lt (X++Y)↔Sorted lt X/\Sorted lt Y/\∀x∈X,∀y∈Y,lt y x=false:=by
 unfold Sorted;exact List.pairwise_append
theorem sorted_one {lt:α->α->Bool} (j:Ord lt):∀{a b:List α},Sorted lt a->Sorted lt b->Same lt a b->a=b
 |[],[],_,_,_=>rfl
 |[],y::b,_,_,h=>absurd ((h.mem j (x:=y)).2 (by simp)) (by simp)
 |x::a,[],_,_,h=>absurd ((h.mem j (x:=x)).1 (by simp)) (by simp)
 |x::a,y::b,ha,hb,h=>by
  have q:eqv lt x y=true:=by
   simp only[eqv,Bool.and_eq_true,Bool.not_eq_true']
   constructor
   ·have:=(h.mem j (x:=x)).1 (by simp)
    rcases List.mem_cons.1 this with e|o
    ·subst e;exact j.irr _
    ·exact(List.pairwise_cons.1 hb).1 x o
   ·have:=(h.mem j (x:=y)).2 (by simp)
    rcases List.mem_cons.1 this with e|o
    ·subst e;exact j.irr _
    ·exact(List.pairwise_cons.1 ha).1 y o
  have A:=h x
  rw[List.filter_cons_of_pos (eqv_self j x),List.filter_cons_of_pos q] at A
  obtain⟨e,B⟩:=List.cons.inj A
  subst e
  have:Same lt a b:=fun z=>by
   have:=h z
   by_cases hz:eqv lt z x=true
   ·rw[List.filter_cons_of_pos hz,List.filter_cons_of_pos hz] at this
    exact(List.cons.inj this).2
   ·rw[List.filter_cons_of_neg hz,List.filter_cons_of_neg hz] at this
    exact this
  rw[sorted_one j (List.pairwise_cons.1 ha).2 (List.pairwise_cons.1 hb).2 this]
theorem Same.len {lt:α->α->Bool} (j:Ord lt):∀{a b:List α},Same lt a b->a.length=b.length
 |[],b,h=>by
  cases b with
  |nil=>rfl
  |cons y b=>exact absurd ((h.mem j (x:=y)).2 (by simp)) (by simp)
 |x::a,b,h=>by
  have O:=(h.mem j (x:=x)).1 (by simp)
  --the first of b that is alike is x
  have B:=h x
  rw[List.filter_cons_of_pos (eqv_self j x)] at B
  obtain⟨p,q,I,E,T⟩:∃p q,b=p++x::q/\(∀y∈p,¬eqv lt x y=true)/\a.filter (eqv lt x)=q.filter (eqv lt x):=by
   obtain⟨p,q,F,M,N,J⟩:=List.filter_eq_cons_iff.1 B.symm
   exact⟨p,q,F,M,J.symm⟩
  subst I
  have:Same lt a (p++q):=fun z=>by
   have o:=h z
   by_cases hzx:eqv lt z x=true
   ·have D:p.filter (eqv lt z)=[]:=by
     rw[List.filter_eq_nil_iff]
     intro y K A
     refine E y K ?_
     simp only[eqv,Bool.and_eq_true,Bool.not_eq_true'] at hzx A⊢
     exact⟨j.ntrans _ _ _ hzx.2 A.1,j.ntrans _ _ _ A.2 hzx.1⟩
    rw[List.filter_append,D] at o⊢
    rw[List.filter_cons_of_pos hzx,List.nil_append,List.filter_cons_of_pos hzx] at o
    rw[List.nil_append]
    exact(List.cons.inj o).2
   ·rw[List.filter_cons_of_neg hzx,List.filter_append,List.filter_cons_of_neg hzx] at o
    rw[List.filter_append];exact o
  have:=Same.len j this
  simp at this⊢
  omega
theorem Same.filter {lt:α->α->Bool} {a b:List α} (h:Same lt a b) (p:α->Bool):Same lt (a.filter p) (b.filter p):=fun x=>by
 have:=congrArg (List.filter p) (h x)
 rw[List.filter_filter,List.filter_filter] at this
 rw[List.filter_filter,List.filter_filter]
 have e:(fun a=>eqv lt x a&&p a)=(fun a=>p a&&eqv lt x a):=by funext a;exact Bool.and_comm _ _
 rw[e];exact this
theorem Sorted.filter {lt:α->α->Bool} {a:List α} (h:Sorted lt a) (p:α->Bool):Sorted lt (a.filter p):=List.Pairwise.filter p h
theorem put_one {lt:α->α->Bool} (q:Ord lt) {A C:List α} {x:α} (D:Sorted lt (A++C)) (o:∀c∈C,lt x c=true) (I:∀a∈A,lt x a=false):Sorted lt (A++x::C)/\Same lt (A++C++[x]) (A++x::C):=by
 obtain⟨E,F,B⟩:=Sorted.app.1 D
 refine⟨Sorted.app.2 ⟨E,List.pairwise_cons.2 ⟨fun c j=>q.asymm _ _ (o c j),F⟩,?_⟩,?_⟩
 ·intro a z y h
  rcases List.mem_cons.1 h with rfl|h
  ·exact I a z
  ·exact B a z y h
 ·rw[List.append_assoc]
  refine(Same.refl lt A).app ?_
  refine(Same.swap q (X:=C) (Y:=[x]) ?_)
  intro c j y h
  simp at h;subst h;exact o c j
theorem sym_cut {lt:α->α->Bool} (B:Ord lt) {q A z o M N:List α} (J:Sorted lt (q++A)) (T:Sorted lt (z++o)) (F:∀x∈A,∀y∈z,lt y x=true) (O:∀x∈q,∀y∈o,lt y x=false)
 (K:Sorted lt M) (E:Same lt (q++z) M) (I:Sorted lt N) (D:Same lt (A++o) N):Sorted lt (M++N)/\Same lt ((q++A)++(z++o)) (M++N):=by
 obtain⟨a1,a2,a3⟩:=Sorted.app.1 J
 obtain⟨b1,b2,b3⟩:=Sorted.app.1 T
 refine⟨Sorted.app.2 ⟨K,I,?_⟩,?_⟩
 ·intro x h y j
  rw[<-E.mem B] at h
  rw[<-D.mem B] at j
  rcases List.mem_append.1 h with h|h<;>rcases List.mem_append.1 j with j|j
  ·exact a3 x h y j
  ·exact O x h y j
  ·exact B.asymm _ _ (F y j x h)
  ·exact b3 x h y j
 ·have e:Same lt ((q++A)++(z++o)) ((q++z)++(A++o)):=by
   rw[List.append_assoc,List.append_assoc]
   refine(Same.refl lt q).app ?_
   rw[<-List.append_assoc,<-List.append_assoc]
   exact(Same.swap B F).app (Same.refl lt o)
  exact e.trans (E.app D)
theorem put_first {lt:α->α->Bool} (o:Ord lt) {A C:List α} {x:α} (F:Sorted lt (A++C)) (B:∀a∈A,lt a x=true) (E:∀c∈C,lt c x=false):Sorted lt (A++x::C)/\Same lt (x::(A++C)) (A++x::C):=by
 obtain⟨I,J,D⟩:=Sorted.app.1 F
 refine⟨Sorted.app.2 ⟨I,List.pairwise_cons.2 ⟨E,J⟩,?_⟩,?_⟩
 ·intro a q y h
  rcases List.mem_cons.1 h with rfl|h
  ·exact o.asymm _ _ (B a q)
  ·exact D a q y h
 ·have:=(Same.swap o (X:=[x]) (Y:=A) (by intro z j y h;simp at j;subst j;exact B y h)).app (Same.refl lt C)
  simpa using this
theorem sorted_head {lt:α->α->Bool} (q:Ord lt) {o:α} {l:List α} (h:Sorted lt (o::l)):∀x∈o::l,lt x o=false:=by
 intro x j
 rcases List.mem_cons.1 j with rfl|j
 ·exact q.irr _
 ·exact(List.pairwise_cons.1 h).1 x j
theorem sorted_last {lt:α->α->Bool} (q:Ord lt) {o:α} {l:List α} (h:Sorted lt (l++[o])):∀y∈l++[o],lt o y=false:=by
 intro y j
 rcases List.mem_append.1 j with j|j
 ·exact(Sorted.app.1 h).2.2 y j o (by simp)
 ·simp at j;subst j;exact q.irr _
theorem sym_find {lt:α->α->Bool} (o:Ord lt) {P L R S:List α} {a m b mid start:Nat} (q:P.length=a) (O:L.length=m-a) (hR:R.length=b-m) (ac:a<m) (ab:m<b) (aa:mid=(a+b)/2) (M:Sorted lt L) (U:Sorted lt R)
 (z:(if mid<m then mid+m-b else a)<=start) (A:start<=if mid<m then mid else m)
 (Z:start=(if mid<m then mid+m-b else a)\/∀x y,(P++(L++(R++S)))[start-1]? =some x->(P++(L++(R++S)))[mid+m-start]? =some y->lt y x=false)
 (V:start=(if mid<m then mid else m)\/∀x y,(P++(L++(R++S)))[start]? =some x->(P++(L++(R++S)))[mid+m-1-start]? =some y->lt y x=true):
 ∃L1 L2 R1 R2,L=L1++L2/\R=R1++R2/\L1.length=start-a/\R1.length=mid-start/\(∀x∈L2,∀y∈R1,lt y x=true)/\∀x∈L1,∀y∈R2,lt y x=false:=by
 have af:a<=start:=by split at z<;>omega
 have ae:start<=m:=by split at A<;>omega
 have ag:start<=mid:=by split at A<;>omega
 have ad:mid+m-start<=b:=by split at z<;>omega
 refine⟨L.take (start-a),L.drop (start-a),R.take (mid-start),R.drop (mid-start),(List.take_append_drop _ _).symm,(List.take_append_drop _ _).symm,by rw[List.length_take];omega,by rw[List.length_take];omega,?_,?_⟩
 ·by_cases hm:start=m
  ·intro x h
   rw[List.drop_eq_nil_of_le (by omega)] at h
   simp at h
  by_cases hd:start=mid
  ·intro x _ y j
   rw[hd,Nat.sub_self,List.take_zero] at j
   simp at j
  have hB':=V.resolve_left (by split<;>omega)
  have E:(P++(L++(R++S)))[start]? =some (L[start-a]'(by omega)):=by
   rw[List.getElem?_append_right (by omega),List.getElem?_append_left (by omega),q,List.getElem?_eq_getElem]
  have I:(P++(L++(R++S)))[mid+m-1-start]? =some (R[mid-start-1]'(by omega)):=by
   rw[List.getElem?_append_right (by omega),List.getElem?_append_right (by omega),List.getElem?_append_left (by omega),q,O,<-List.getElem?_eq_getElem]
   congr 1
   omega
  have D:=hB' _ _ E I
  have N:L.drop (start-a)=L[start-a]'(by omega)::L.drop (start-a+1):=by rw[List.drop_eq_getElem_cons (by omega)]
  have T:R.take (mid-start)=R.take (mid-start-1)++[R[mid-start-1]'(by omega)]:=by
   have:=List.take_succ_eq_append_getElem (l:=R) (i:=mid-start-1) (by omega)
   rw[show mid-start-1+1=mid-start by omega] at this
   exact this
  have s1:=(Sorted.app.1 ((List.take_append_drop (start-a) L).symm▸M)).2.1
  have s2:=(Sorted.app.1 ((List.take_append_drop (mid-start) R).symm▸U)).1
  rw[N] at s1⊢
  rw[T] at s2⊢
  intro x h y j
  have B:=sorted_head o s1 x h
  have F:=sorted_last o s2 y j
  exact o.lt_le (o.le_lt F D) B
 ·by_cases hm:start=a
  ·intro x h
   rw[hm,Nat.sub_self,List.take_zero] at h
   simp at h
  by_cases hd:mid+m-start=b
  ·intro x _ y j
   rw[List.drop_eq_nil_of_le (by omega)] at j
   simp at j
  have hA':=Z.resolve_left (by split<;>omega)
  have E:(P++(L++(R++S)))[start-1]? =some (L[start-a-1]'(by omega)):=by
   rw[List.getElem?_append_right (by omega),List.getElem?_append_left (by omega),q,<-List.getElem?_eq_getElem]
   congr 1
   omega
  have I:(P++(L++(R++S)))[mid+m-start]? =some (R[mid-start]'(by omega)):=by
   rw[List.getElem?_append_right (by omega),List.getElem?_append_right (by omega),List.getElem?_append_left (by omega),q,O,<-List.getElem?_eq_getElem]
   congr 1
   omega
  have D:=hA' _ _ E I
  have J:R.drop (mid-start)=R[mid-start]'(by omega)::R.drop (mid-start+1):=by rw[List.drop_eq_getElem_cons (by omega)]
  have K:L.take (start-a)=L.take (start-a-1)++[L[start-a-1]'(by omega)]:=by
   have:=List.take_succ_eq_append_getElem (l:=L) (i:=start-a-1) (by omega)
   rw[show start-a-1+1=start-a by omega] at this
   exact this
  have s1:=(Sorted.app.1 ((List.take_append_drop (start-a) L).symm▸M)).1
  have s2:=(Sorted.app.1 ((List.take_append_drop (mid-start) R).symm▸U)).2.1
  rw[J] at s2⊢
  rw[K] at s1⊢
  intro x h y j
  have B:=sorted_last o s1 x h
  have F:=sorted_head o s2 y j
  exact o.ntrans _ _ _ (o.ntrans _ _ _ F D) B
theorem cut_two {lt:α->α->Bool} {R:List α} (F:Sorted lt R) (k:Nat) (K:k<=R.length) (p:α->Bool) (B:∀x y,lt y x=false->p x=false->p y=false) (A:∀x y,lt y x=false->p y=true->p x=true)
 (z:k=0\/∀y,R[k-1]? =some y->p y=true) (I:k=R.length\/∀y,R[k]? =some y->p y=false) (D:Ord lt):
 ∃R1 R2,R=R1++R2/\R1.length=k/\(∀y∈R1,p y=true)/\∀y∈R2,p y=false:=by
 refine⟨R.take k,R.drop k,(List.take_append_drop _ _).symm,by rw[List.length_take];omega,?_,?_⟩
 ·rcases z with rfl|z
  ·intro y j;simp at j
  ·intro y j
   have J:0<k:=by
    rcases Nat.eq_zero_or_pos k with rfl|h
    ·simp at j
    ·exact h
   have q:=z _ (List.getElem?_eq_getElem (by omega))
   have E:R.take k=R.take (k-1)++[R[k-1]'(by omega)]:=by
    have:=List.take_succ_eq_append_getElem (l:=R) (i:=k-1) (by omega)
    rw[show k-1+1=k by omega] at this
    exact this
   have s2:=(Sorted.app.1 ((List.take_append_drop k R).symm▸F)).1
   rw[E] at s2 j
   exact A _ _ (sorted_last D s2 y j) q
 ·intro y j
  have o:k<R.length:=by
   rcases Nat.lt_or_ge k R.length with h|h
   ·exact h
   ·rw[List.drop_eq_nil_of_le h] at j;simp at j
  have q:=I.resolve_left (by omega) _ (List.getElem?_eq_getElem o)
  have s2:=(Sorted.app.1 ((List.take_append_drop k R).symm▸F)).2.1
  rw[List.drop_eq_getElem_cons o] at s2 j
  exact B _ _ (sorted_head D s2 y j) q
theorem find_first {lt:α->α->Bool} (j:Ord lt) {P R S:List α} {x:α} {a m b i:Nat} (F:P.length=a) (D:m=a+1) (I:R.length=b-m) (B:m<=i) (E:i<=b) (z:Sorted lt R)
 (A:i=m\/∀y,(P++([x]++(R++S)))[i-1]? =some y->lt y x=true) (q:i=b\/∀y,(P++([x]++(R++S)))[i]? =some y->lt y x=false):
 ∃R1 R2,R=R1++R2/\R1.length=i-m/\(∀y∈R1,lt y x=true)/\∀y∈R2,lt y x=false:=by
 refine cut_two z (i-m) (by omega) (fun y=>lt y x) (fun u v h1 h2=>j.ntrans _ _ _ h1 h2) (fun u v h1 h2=>j.le_lt h1 h2) ?_ ?_ j
 ·rcases A with h|h
  ·left;omega
  ·by_cases h0:i=m
   ·left;omega
   ·right;intro y o
    refine h y ?_
    rw[List.getElem?_append_right (by omega),List.getElem?_append_right (by simp;omega),List.getElem?_append_left (by simp;omega),<-o]
    congr 1
    simp
    omega
 ·rcases q with h|h
  ·left;omega
  ·by_cases h0:i=b
   ·left;omega
   ·right;intro y o
    refine h y ?_
    rw[List.getElem?_append_right (by omega),List.getElem?_append_right (by simp;omega),List.getElem?_append_left (by simp;omega),<-o]
    congr 1
    simp
    omega
theorem find_last {lt:α->α->Bool} (j:Ord lt) {P L S:List α} {x:α} {a m i:Nat} (F:P.length=a) (E:L.length=m-a) (D:a<=i) (B:i<=m) (q:Sorted lt L)
 (A:i=a\/∀y,(P++(L++S))[i-1]? =some y->lt x y=false) (z:i=m\/∀y,(P++(L++S))[i]? =some y->lt x y=true):
 ∃L1 L2,L=L1++L2/\L1.length=i-a/\(∀y∈L1,lt x y=false)/\∀y∈L2,lt x y=true:=by
 have:=cut_two q (i-a) (by omega) (fun y=> !lt x y) (fun u v h1 h2=>?_) (fun u v h1 h2=>?_) ?_ ?_ j
 ·simpa using this
 ·simp at h2⊢;exact j.lt_le h2 h1
 ·simp at h2⊢;exact j.ntrans _ _ _ h2 h1
 ·rcases A with h|h
  ·left;omega
  ·by_cases h0:i=a
   ·left;omega
   ·right;intro y o
    have:=h y (by
     rw[List.getElem?_append_right (by omega),List.getElem?_append_left (by omega),<-o]
     congr 1
     omega)
    simp[this]
 ·rcases z with h|h
  ·left;omega
  ·by_cases h0:i=m
   ·left;omega
   ·right;intro y o
    have:=h y (by
     rw[List.getElem?_append_right (by omega),List.getElem?_append_left (by omega),<-o]
     congr 1
     omega)
    simp[this]
end Stb
end Go.Proofs.YtofidnijfnhpaaaGreatDoor
namespace Go.Proofs.YtofidnijfnhpaaaGreatDoor
namespace Stb
open Go.Shelf Go.RowKit Go.Lib Go.Sort
variable {α:Type} [Inhabited α]
theorem arr_at (A C:List α) (x:α) (k:Nat) (h:k=A.length):((A++x::C).toArray)[k]! =x:=by
 subst h
 simp
theorem swp_list (A B C:List α) (x y:α) (i j:Nat) (h:i=A.length) (z:j=A.length+1+B.length):swp (A++x::(B++y::C)).toArray i j=(A++y::(B++x::C)).toArray:=by
 have o:=arr_at A (B++y::C) x i h
 have q:((A++x::(B++y::C)).toArray)[j]! =y:=by
  have:=arr_at (A++x::B) C y j (by simp;omega)
  simpa using this
 unfold swp
 rw[o,q]
 subst h
 simp only[List.setIfInBounds_toArray]
 congr 1
 rw[List.set_append_right _ _ (Nat.le_refl _),Nat.sub_self,List.set_cons_zero,List.set_append_right _ _ (by omega),show j-A.length=B.length+1 by omega,List.set_cons_succ,List.set_append_right _ _ (Nat.le_refl _),Nat.sub_self,List.set_cons_zero]
theorem swp_list' (A B C:List α) (x y:α) (i j:Nat) (h:i=A.length) (z:j=A.length+1+B.length):swp (A++x::(B++y::C)).toArray j i=(A++y::(B++x::C)).toArray:=by
 have o:=arr_at A (B++y::C) x i h
 have q:((A++x::(B++y::C)).toArray)[j]! =y:=by
  have:=arr_at (A++x::B) C y j (by simp;omega)
  simpa using this
 unfold swp
 rw[o,q]
 subst h
 simp only[List.setIfInBounds_toArray]
 congr 1
 rw[List.set_append_right _ _ (by omega),show j-A.length=B.length+1 by omega,List.set_cons_succ,List.set_append_right _ _ (Nat.le_refl _),Nat.sub_self,List.set_cons_zero,List.set_append_right _ _ (Nat.le_refl _),Nat.sub_self,List.set_cons_zero]
theorem arr_get (l:List α) (k:Nat) (h:k<l.length):l[k]? =some (l.toArray[k]!):=by
 rw[List.getElem?_eq_getElem h,getElem!_pos _ _ (by simpa using h)]
 simp
theorem swapRange_any (enc:α->Value) (cv:Value) (blk h ap a b n N:Nat) (P X M Y S:List α) (d0:Array α) (w0 w:World) (R:Row1 enc w0 blk h d0) (hN:d0.size=N) (U:(P++(X++(M++(Y++S)))).length=N) (ha:P.length=a) (hX:X.length=n) (hY:Y.length=n) (hb:b=a+n+M.length) (hsz:N<4611686018427387904)
 (S0:SW enc w0 blk h (P++(X++(M++(Y++S)))).toArray w):
 Calls Tryz.prog 159 #[.slice (some ⟨blk,h,none⟩) N ap,.int .i64 a,.int .i64 b,.int .i64 n,cv] w fun e w'=>e=.returned (.tuple #[])/\SW enc w0 blk h (P++(Y++(M++(X++S)))).toArray w':=by
 have ay:Tryz.prog.follows .mixedOrders=true:=by kernel_rfl
 have ae:=R.hO.cells
 simp only[Value.cells] at ae
 have aI:=R.hO.store Tryz.prog
 have HS:Aside (SW enc w0 blk h (P++(X++(M++(Y++S)))).toArray w):=S0
 have hlen':P.length+(X.length+(M.length+(Y.length+S.length)))=N:=by simpa using U
 clear S0 U
 go_enter Tryz.func159,Tryz.ntmps159
 go_wp2
 go_loopg [10] n (fun g1 vi wr=>∃(i:Nat) (o O j K:List α),vi=.int .i64 i/\i<=n/\n-i<=g1/\X=o++O/\Y=j++K/\o.length=i/\j.length=i/\Aside (SW enc w0 blk h (P++(j++(O++(M++(o++(K++S)))))).toArray wr))
 case atStart=>exact⟨0,[],X,[],Y,rfl,by omega,by omega,rfl,rfl,rfl,rfl,HS⟩
 case round=>
  clear HS
  obtain⟨i,o,O,j,K,rfl,hi,hg,D,B,h1,h2,F⟩:=hrel
  by_cases hlt:i<n
  ·have ad:(i:Int)<(n:Int):=by omega
   have aa:O.length=n-i:=by rw[D,List.length_append] at hX;omega
   have V:K.length=n-i:=by rw[B,List.length_append] at hY;omega
   obtain⟨x,I,rfl⟩:∃x l,O=x::l:=by cases O with |nil=>simp at aa;omega|cons x l=>exact⟨x,l,rfl⟩
   obtain⟨y,E,rfl⟩:∃x l,K=x::l:=by cases K with |nil=>simp at V;omega|cons x l=>exact⟨x,l,rfl⟩
   simp only[List.length_cons] at aa V
   obtain⟨A,ai⟩:∃q,q=a+i:=⟨_,rfl⟩
   obtain⟨z,aq⟩:∃q,q=b+i:=⟨_,rfl⟩
   have ab:(P++(j++(x::I++(M++(o++(y::E++S)))))).toArray.size=N:=by simp;omega
   obtain⟨Z,J⟩:∃q,q=(P++(j++(x::I++(M++(o++(y::E++S)))))).toArray:=⟨_,rfl⟩
   have gx:Z[A]! =x:=by rw[J];have:=arr_at (P++j) (I++(M++(o++(y::E++S)))) x A (by simp;omega);simpa using this
   have gy:Z[z]! =y:=by rw[J];have:=arr_at (P++(j++(x::I++(M++o)))) (E++S) y z (by simp;omega);simpa using this
   have gs:swp Z A z=(P++((j++[y])++(I++(M++((o++[x])++(E++S)))))).toArray:=by rw[J];have:=swp_list (P++j) (I++(M++o)) (E++S) x y A z (by simp;omega) (by simp;omega);simpa using this
   rw[<-J] at F ab
   have ea:((a:Int)+(i:Int)).toNat=A:=by omega
   have pa:(0:Int)<=(a:Int)+(i:Int):=by omega
   have ba:(a:Int)+(i:Int)<(N:Int):=by omega
   have ra:IntKind.i64.wrap ((a:Int)+(i:Int))=(a:Int)+(i:Int):=by rw[IntKind.wrap_i64];omega
   have ec:((b:Int)+(i:Int)).toNat=z:=by omega
   have pc:(0:Int)<=(b:Int)+(i:Int):=by omega
   have bc:(b:Int)+(i:Int)<(N:Int):=by omega
   have rc:IntKind.i64.wrap ((b:Int)+(i:Int))=(b:Int)+(i:Int):=by rw[IntKind.wrap_i64];omega
   have S3:Aside (SW enc w0 blk h (swp Z A z) ((wr.setCell ⟨blk,h+A,none⟩ (enc y)).setCell ⟨blk,h+z,none⟩ (enc x)).drew):=by
    have:=F.out.swapped R A z (by omega) (by omega)
    rw[gx,gy] at this
    exact this
   have ca:=F.out.c1 R (by omega) A (by omega)
   have cb:=F.out.c1 R (by omega) z (by omega)
   have fa:=F.out.f1 R (by omega) A (by omega)
   have fb:=F.out.f1 R (by omega) z (by omega)
   obtain⟨u,cc⟩:=F.out.c2 R (by omega) A z (by omega) (by omega) (enc y)
   rw[gx] at ca
   rw[gy] at cb
   have GS:Aside (swp Z A z=(P++((j++[y])++(I++(M++((o++[x])++(E++S)))))).toArray):=gs
   have T:Aside (X=o++x::I/\Y=j++y::E/\o.length=i/\j.length=i):=⟨D,B,h1,h2⟩
   have HB:Aside (b=a+n+M.length):=hb
   clear F gx gy gs J D B h1 h2 ab aa V ai aq hb ha hX hY hlen'
   go_wp2_with fail
   go_big_region_o
   clear ca cb cc fa fb
   generalize ((wr.setCell ⟨blk,h+A,none⟩ (enc y)).setCell ⟨blk,h+z,none⟩ (enc x)).drew=w3 at S3⊢
   clear ea ec
   go_wp2
   go_roundg (gk-1)
   case measure=>omega
   case rel=>exact⟨i+1,o++[x],I,j++[y],E,by go_num,by omega,by omega,by rw[T.out.1];simp,by rw[T.out.2.1];simp,by simp[T.out.2.2.1],by simp[T.out.2.2.2],by have:=S3.out;rw[GS.out] at this;exact this⟩
  ·have ad:¬((i:Int)<(n:Int)):=by omega
   have aw:O=[]:=by rw[D,List.length_append] at hX;exact List.length_eq_zero_iff.1 (by omega)
   have ar:K=[]:=by rw[B,List.length_append] at hY;exact List.length_eq_zero_iff.1 (by omega)
   subst aw ar
   simp only[List.append_nil] at D B
   subst D B
   go_wp2
   go_end0
   refine⟨rfl,?_⟩
   simpa using F.out
end Stb
end Go.Proofs.YtofidnijfnhpaaaGreatDoor
namespace Go.Proofs.YtofidnijfnhpaaaGreatDoor
namespace Stb
open Go.Shelf Go.RowKit Go.Lib Go.Sort
variable {α:Type} [Inhabited α]
omit [Inhabited α] in
theorem split_at (l:List α) (k:Nat) (h:k<=l.length):∃l1 l2,l=l1++l2/\l1.length=k:=⟨l.take k,l.drop k,(List.take_append_drop _ _).symm,by rw[List.length_take];omega⟩
theorem rotate_any (enc:α->Value) (cv:Value) (blk h ak a m b N:Nat) (P X Y S:List α) (d0:Array α) (w0 w:World) (R:Row1 enc w0 blk h d0) (hN:d0.size=N) (ah:(P++(X++(Y++S))).length=N) (ha:P.length=a) (hX:X.length+a=m) (hY:Y.length+m=b) (aL:0<X.length) (aH:0<Y.length) (hsz:N<4611686018427387904)
 (S0:SW enc w0 blk h (P++(X++(Y++S))).toArray w):
 Calls Tryz.prog 151 #[.slice (some ⟨blk,h,none⟩) N ak,.int .i64 a,.int .i64 m,.int .i64 b,cv] w fun e U=>e=.returned (.tuple #[])/\SW enc w0 blk h (P++(Y++(X++S))).toArray U:=by
 have HS:Aside (SW enc w0 blk h (P++(X++(Y++S))).toArray w):=S0
 have hlen':P.length+(X.length+(Y.length+S.length))=N:=by simpa using ah
 have ai:Aside (∀(V:World) (p q k:Nat) (A B M C D:List α),(A++(B++(M++(C++D)))).length=N->A.length=p->B.length=k->C.length=k->q=p+k+M.length->SW enc w0 blk h (A++(B++(M++(C++D)))).toArray V->Calls Tryz.prog 159 #[.slice (some ⟨blk,h,none⟩) N ak,.int .i64 p,.int .i64 q,.int .i64 k,cv] V fun e U=>e=.returned (.tuple #[])/\SW enc w0 blk h (A++(C++(M++(B++D)))).toArray U):=
  fun V p q k A B M C D O J Z E K I=>swapRange_any enc cv blk h ak p q k N A B M C D d0 w0 V R hN O J Z E K hsz I
 have aS:m<=N:=by omega
 have aO:b<=N:=by omega
 have aR:a<m:=by omega
 have aQ:m<b:=by omega
 obtain⟨xl,au⟩:∃q,q=X.length:=⟨_,rfl⟩
 obtain⟨yl,ar⟩:∃q,q=Y.length:=⟨_,rfl⟩
 have ao:m=a+xl:=by omega
 have ap:b=m+yl:=by omega
 have HL:Aside (P.length=a/\X.length=xl/\Y.length=yl/\P.length+(X.length+(Y.length+S.length))=N):=⟨ha,au.symm,ar.symm,hlen'⟩
 have ay:0<xl:=by omega
 have aD:0<yl:=by omega
 have aq:Aside (m=a+xl/\b=m+yl):=⟨ao,ap⟩
 clear S0 ah hlen' R hN ha hX hY aL aH au ar
 have e1:(m:Int)-(a:Int)=(xl:Int):=by omega
 have e2:(b:Int)-(m:Int)=(yl:Int):=by omega
 clear ao ap
 go_enter Tryz.func151,Tryz.ntmps151
 go_wp2
 go_loopg [10,11] (xl+yl) (fun g1 vi vj wr=>∃(i j:Nat) (o F z y:List α),vi=.int .i64 i/\vj=.int .i64 j/\0<i/\0<j/\i<=m/\m+j<=N/\i+j<=g1/\Aside (F.length=i/\z.length=j/\o.length+i=m/\(o++(F++(z++y))).length=N/\o++(z++(F++y))=P++(Y++(X++S))/\SW enc w0 blk h (o++(F++(z++y))).toArray wr))
 case atStart=>exact⟨xl,yl,P,X,Y,S,by first|rfl|(congr 1),by first|rfl|(congr 1),ay,aD,by omega,by have:=aq.out;omega,by omega,⟨HL.out.2.1,HL.out.2.2.1,by rw[HL.out.1];have:=aq.out;omega,by simpa using HL.out.2.2.2,rfl,HS.out⟩⟩
 case round=>
  clear HS HL
  obtain⟨i,j,o,F,z,y,rfl,rfl,aK,az,aB,aI,hg,H⟩:=hrel
  by_cases hij:i=j
  ·subst hij
   go_wp2_with (go_at_call 159;fail)
   rw[show(m:Int)-(i:Int)=((m-i:Nat):Int) by omega]
   obtain⟨O,J,Z,E,K,I⟩:=H.out
   refine(ai.out wr (m-i) m i o F [] z y (by simpa using E) (by omega) O J (by simp;omega) (by simpa using I)).mono ?_
   rintro e U ⟨rfl,T⟩
   rw[List.nil_append,K] at T
   have HF:Aside _:=T
   clear T O J Z E K I H
   go_wp2
   go_end0
   exact⟨rfl,HF.out⟩
  ·by_cases aP:j<i
   ·have hgt':(j:Int)<(i:Int):=by omega
    have aE:¬((i:Int)=(j:Int)):=by omega
    go_wp2_with (go_at_call 159;fail)
    rw[show(m:Int)-(i:Int)=((m-i:Nat):Int) by omega]
    obtain⟨O,J,Z,E,K,I⟩:=H.out
    obtain⟨X1,X2,rfl,aj⟩:=split_at F j (by omega)
    have aw:X2.length=i-j:=by rw[List.length_append] at O;omega
    refine(ai.out wr (m-i) m j o X1 X2 z y (by simpa using E) (by omega) aj J (by omega) (by simpa using I)).mono ?_
    rintro e U ⟨rfl,T⟩
    have HF:Aside (X2.length=i-j/\X1.length=j/\(o++z).length+(i-j)=m/\((o++z)++(X2++(X1++y))).length=N/\(o++z)++(X1++(X2++y))=P++(Y++(X++S))/\SW enc w0 blk h ((o++z)++(X2++(X1++y))).toArray U):=⟨aw,aj,by rw[List.length_append];omega,by simp only[List.length_append] at E⊢;omega,by rw[<-K];simp,by simpa using T⟩
    clear T O J Z E K I H aj aw
    go_wp2
    go_roundg (i+j-j)
    case measure=>omega
    case rel=>exact⟨i-j,j,o++z,X2,X1,y,by first|go_num|(congr 1;omega),rfl,by omega,az,by omega,aI,by omega,HF⟩
   ·have hgt':¬(j:Int)<(i:Int):=by omega
    have aE:¬((i:Int)=(j:Int)):=by omega
    go_wp2_with (go_at_call 159;fail)
    rw[show(m:Int)-(i:Int)=((m-i:Nat):Int) by omega,show(m:Int)+(j:Int)-(i:Int)=((m+j-i:Nat):Int) by omega]
    obtain⟨O,J,Z,E,K,I⟩:=H.out
    obtain⟨Y1,Y2,rfl,av⟩:=split_at z (j-i) (by omega)
    have am:Y2.length=i:=by rw[List.length_append] at J;omega
    refine(ai.out wr (m-i) (m+j-i) i o F Y1 Y2 y (by simpa using E) (by omega) O am (by omega) (by simpa using I)).mono ?_
    rintro e U ⟨rfl,T⟩
    have HF:Aside (Y2.length=i/\Y1.length=j-i/\o.length+i=m/\(o++(Y2++(Y1++(F++y)))).length=N/\o++(Y1++(Y2++(F++y)))=P++(Y++(X++S))/\SW enc w0 blk h (o++(Y2++(Y1++(F++y)))).toArray U):=⟨am,av,Z,by simp only[List.length_append] at E⊢;omega,by rw[<-K];simp,T⟩
    clear T O J Z E K I H av am
    go_wp2
    go_roundg (i+j-i)
    case measure=>omega
    case rel=>exact⟨i,j-i,o,Y2,Y1,F++y,rfl,by first|go_num|(congr 1;omega),aK,by omega,aB,by omega,by omega,HF⟩
end Stb
end Go.Proofs.YtofidnijfnhpaaaGreatDoor
namespace Go.Proofs.YtofidnijfnhpaaaGreatDoor
namespace Stb
open Go.Shelf Go.RowKit Go.Lib Go.Sort
variable {α:Type} [Inhabited α]
omit [Inhabited α] in
theorem sorted_short (lt:α->α->Bool) (l:List α) (h:l.length<=1):Sorted lt l:=by
 match l,h with
 |[],_=>exact List.Pairwise.nil
 |[x],_=>exact List.pairwise_singleton _ _
theorem insertion_any (enc:α->Value) (D:α->α->Int) (g:Nat) (cb:Array Value) (blk h aW a b N:Nat) (P M S:List α) (d0:Array α) (w0 w:World) (eg:∀args w,(callFunc g args).run Tryz.prog w=.ok (.enter g args) w) (aj:CmpLays1 Tryz.prog g cb enc D blk h d0.size w0) (ho:Ord (ltOf D)) (R:Row1 enc w0 blk h d0) (hN:d0.size=N) (am:(P++(M++S)).length=N) (ha:P.length=a) (hb:b=a+M.length) (hsz:N<4611686018427387904)
 (S0:SW enc w0 blk h (P++(M++S)).toArray w):
 Calls Tryz.prog 135 #[.slice (some ⟨blk,h,none⟩) N aW,.int .i64 a,.int .i64 b,.func (.func g) #[] cb] w fun e w'=>e=.returned (.tuple #[])/\∃M',Sorted (ltOf D) M'/\Same (ltOf D) M M'/\SW enc w0 blk h (P++(M'++S)).toArray w':=by
 have a9:Tryz.prog.follows .mixedOrders=true:=by kernel_rfl
 have aG:=R.hO.cells
 simp only[Value.cells] at aG
 have bv:=R.hO.store Tryz.prog
 have HC:Aside _:=aj
 have hlen':P.length+(M.length+S.length)=N:=by simpa using am
 have bx:b<=N:=by omega
 have bq:a<=b:=by omega
 have HS:Aside (∃A,Sorted (ltOf D) A/\Same (ltOf D) (M.take (a+1-a)) A/\SW enc w0 blk h (P++(A++(M.drop (a+1-a)++S))).toArray w):=⟨M.take (a+1-a),sorted_short _ _ (by rw[List.length_take];omega),Same.refl _ _,by rw[<-List.append_assoc (M.take _),List.take_append_drop];exact S0⟩
 have HL:Aside (P.length=a/\b=a+M.length/\P.length+(M.length+S.length)=N):=⟨ha,hb,hlen'⟩
 have ae:Aside (Ord (ltOf D)):=ho
 clear S0 am aj ha hb hlen' ho
 go_enter Tryz.func135,Tryz.ntmps135
 go_wp2
 go_loopg [8] (b-a) (fun g1 vi wr=>∃(i:Nat),vi=.int .i64 i/\a<i/\i<=b+1/\b+1-i<=g1+1/\Aside (∃A,Sorted (ltOf D) A/\Same (ltOf D) (M.take (i-a)) A/\SW enc w0 blk h (P++(A++(M.drop (i-a)++S))).toArray wr))
 case atStart=>exact⟨a+1,by go_num,by omega,by omega,by omega,HS⟩
 case round=>
  clear HS
  obtain⟨i,rfl,bC,bp,bt,H1⟩:=hrel
  by_cases hlt:i<b
  ·have aE:(i:Int)<(b:Int):=by omega
   obtain⟨A,x,B,HA⟩:∃A x B,Aside (Sorted (ltOf D) A/\Same (ltOf D) (M.take (i-a)) A/\A.length=i-a/\M.take (i+1-a)=M.take (i-a)++[x]/\M.drop (i+1-a)=B/\P.length+(A.length+1+B.length+S.length)=N/\SW enc w0 blk h (P++(A++x::([]++(B++S)))).toArray wr):=by
    obtain⟨A,h1,h2,h3⟩:=H1.out
    obtain⟨k1,k2,k3⟩:=HL.out
    have hk:i-a<M.length:=by omega
    have az:A.length=i-a:=by rw[<-h2.len ae.out,List.length_take];omega
    refine⟨A,M[i-a],M.drop (i+1-a),h1,h2,az,?_,rfl,?_,?_⟩
    ·rw[show i+1-a=i-a+1 by omega,List.take_succ_eq_append_getElem hk]
    ·rw[az,List.length_drop];omega
    ·rw[List.drop_eq_getElem_cons hk,show i-a+1=i+1-a by omega] at h3
     simpa using h3
   clear H1
   go_wp2
   go_loopg [9] i (fun g2 vj wr2=>∃(j:Nat) (E C:List α),vj=.int .i64 j/\a<=j/\j<=i/\j<=g2/\Aside (A=E++C/\E.length=j-a/\(∀c∈C,ltOf D x c=true)/\SW enc w0 blk h (P++(E++x::(C++(B++S)))).toArray wr2))
   case atStart=>exact⟨i,A,[],rfl,by omega,Nat.le_refl _,Nat.le_refl _,by simp,HA.out.2.2.1,by simp,HA.out.2.2.2.2.2.2⟩
   case round=>
    obtain⟨j,E,C,rfl,bA,bu,bw,K⟩:=hrel
    have ax:Aside (∀V:World,(∀y∈E,ltOf D x y=false)->SW enc w0 blk h (P++(E++x::(C++(B++S)))).toArray V->∃A,Sorted (ltOf D) A/\Same (ltOf D) (M.take (i+1-a)) A/\SW enc w0 blk h (P++(A++(M.drop (i+1-a)++S))).toArray V):=by
     intro V hy hV
     obtain⟨k1,k2,k3,k4,k5,k6,k7⟩:=HA.out
     obtain⟨q1,q2,q3,q4⟩:=K.out
     obtain⟨p1,p2⟩:=put_one ae.out (q1▸k1) q3 hy
     refine⟨E++x::C,p1,?_,by rw[k5];simpa using hV⟩
     rw[k4]
     exact((k2.app (Same.refl _ [x])).trans (by rw[q1];exact p2))
    by_cases hja:a<j
    ·have aB:(a:Int)<(j:Int):=by omega
     obtain⟨o,bB⟩:∃q,q+1=j:=⟨j-1,by omega⟩
     have bz:(j:Int)=(o:Int)+1:=by omega
     have bh:decide ((o:Int)+1>(a:Int))=true:=decide_eq_true (by omega)
     have hjaz':(a:Int)<(o:Int)+1:=by omega
     obtain⟨T,y,U⟩:∃T y,Aside (E=T++[y]/\T.length=o-a):=by
      obtain⟨q1,q2,q3,q4⟩:=K.out
      have ay:E≠[]:=by intro e;rw[e] at q2;simp at q2;omega
      exact⟨E.dropLast,E.getLast ay,(List.dropLast_concat_getLast ay).symm,by rw[List.length_dropLast];omega⟩
     obtain⟨J,O⟩:∃q,q=(P++(E++x::(C++(B++S)))).toArray:=⟨_,rfl⟩
     have br:j<N:=by omega
     have bs:J.size=N:=by
      obtain⟨q1,q2,q3,q4⟩:=K.out
      obtain⟨k1,k2,k3,k4,k5,k6,k7⟩:=HA.out
      rw[O]
      rw[q1,List.length_append] at k6
      simp
      omega
     have gx:J[j]! =x:=by
      rw[O]
      have:=arr_at (P++E) (C++(B++S)) x j (by rw[List.length_append,HL.out.1,K.out.2.1];omega)
      simpa using this
     have gy:J[o]! =y:=by
      rw[O,U.out.1]
      have:=arr_at (P++T) (x::(C++(B++S))) y o (by rw[List.length_append,HL.out.1,U.out.2];omega)
      simpa using this
     have gs:swp J j o=(P++(T++x::((y::C)++(B++S)))).toArray:=by
      rw[O,U.out.1]
      have:=swp_list' (P++T) [] (C++(B++S)) y x o j (by rw[List.length_append,HL.out.1,U.out.2];omega) (by rw[List.length_append,HL.out.1,U.out.2];simp;omega)
      simpa using this
     have SJ:Aside (SW enc w0 blk h J wr):=by rw[O];exact K.out.2.2.2
     have GS:Aside (swp J j o=(P++(T++x::((y::C)++(B++S)))).toArray):=gs
     have a7:Aside (J=(P++(E++x::(C++(B++S)))).toArray):=O
     have ao:Aside (A=E++C/\∀c∈C,ltOf D x c=true):=⟨K.out.1,K.out.2.2.1⟩
     clear gs O K
     obtain⟨iN,af⟩:∃q,q=j:=⟨_,rfl⟩
     obtain⟨jN,Z⟩:∃q,q=o:=⟨_,rfl⟩
     have ea:((o:Int)+1).toNat=iN:=by omega
     have pa:(0:Int)<=(o:Int)+1:=by omega
     have ba:(o:Int)+1<(N:Int):=by omega
     have ra:IntKind.i64.wrap ((o:Int)+1)=(o:Int)+1:=by rw[IntKind.wrap_i64];omega
     have ec:((o:Int)).toNat=jN:=by omega
     have pc:(0:Int)<=(o:Int):=by omega
     have bc:(o:Int)<(N:Int):=by omega
     have rc:IntKind.i64.wrap ((o:Int))=(o:Int):=by rw[IntKind.wrap_i64];omega
     have la:=SJ.out.cl R (by omega) j (by omega)
     have lb:=SJ.out.cl R (by omega) o (by omega)
     rw[gx,<-af] at la
     rw[gy,<-Z] at lb
     have hc:=SJ.out.cmp HC.out (by omega) x y
     cases hlv:ltOf D x y with
     |true=>
      have hv:D x y<0:=of_decide_eq_true hlv
      have hd:decide (D x y<0)=true:=decide_eq_true hv
      have ak:Aside (ltOf D x y=true):=hlv
      have F:Aside (iN=j/\jN=o/\J[j]! =x/\J[o]! =y):=⟨af,Z,gx,gy⟩
      clear hlv af Z gx gy
      go_wp2_with fail
      go_quiet_grown (first|(go_at_fn g;refine Calls.grown_of (hc _ _)))
      have I:Aside (SW enc w0 blk h J (grow (wr.drewN nq) osq)):=SJ.out.grown nq osq
      clear la lb hc SJ
      generalize grow (wr.drewN nq) osq=w2 at I⊢
      clear nq osq
      go_wp2_with fail
      have S3:Aside (SW enc w0 blk h (swp J j o) ((w2.setCell ⟨blk,h+iN,none⟩ (enc y)).setCell ⟨blk,h+jN,none⟩ (enc x)).drew):=by
       obtain⟨z1,z2,z3,z4⟩:=F.out
       have:=I.out.swapped R j o (by omega) (by omega)
       rw[z3,z4] at this
       rw[z1,z2]
       exact this
      have ca:w2.cell? ⟨blk,h+iN,none⟩=some (enc x):=by have:=I.out.c1 R (by omega) j (by omega);rw[F.out.2.2.1,<-F.out.1] at this;exact this
      have cb':w2.cell? ⟨blk,h+jN,none⟩=some (enc y):=by have:=I.out.c1 R (by omega) o (by omega);rw[F.out.2.2.2,<-F.out.2.1] at this;exact this
      have fa:w2.frozen? ⟨blk,h+iN,none⟩=false:=by have:=I.out.f1 R (by omega) j (by omega);rw[<-F.out.1] at this;exact this
      have fb:w2.frozen? ⟨blk,h+jN,none⟩=false:=by have:=I.out.f1 R (by omega) o (by omega);rw[<-F.out.2.1] at this;exact this
      obtain⟨u,cc⟩:∃u,(w2.setCell ⟨blk,h+iN,none⟩ (enc y)).cell? ⟨blk,h+jN,none⟩=some u:=by have:=I.out.c2 R (by omega) j o (by omega) (by omega) (enc y);rw[<-F.out.1,<-F.out.2.1] at this;exact this
      clear I
      go_wp2_with fail
      go_big_region_o
      clear ca cb' cc fa fb
      generalize ((w2.setCell ⟨blk,h+iN,none⟩ (enc y)).setCell ⟨blk,h+jN,none⟩ (enc x)).drew=w3 at S3⊢
      clear ea ec
      go_wp2
      go_roundg (j-1)
      case measure=>omega
      case rel=>exact⟨j-1,T,y::C,by first|rfl|go_num|(congr 1;omega),by omega,by omega,Nat.le_refl _,by rw[ao.out.1,U.out.1];simp,by rw[U.out.2];omega,fun c hc=>(by rcases List.mem_cons.1 hc with rfl|hc;exact ak.out;exact ao.out.2 c hc),by have:=S3.out;rw[GS.out] at this;exact this⟩
     |false=>
      have hv:¬D x y<0:=of_decide_eq_false hlv
      have hd:decide (D x y<0)=false:=decide_eq_false hv
      have ak:Aside (ltOf D x y=false):=hlv
      clear hlv af Z gx gy
      go_wp2_with fail
      go_quiet_grown (first|(go_at_fn g;refine Calls.grown_of (hc _ _)))
      have I:Aside (SW enc w0 blk h J (grow (wr.drewN nq) osq)):=SJ.out.grown nq osq
      clear la lb hc SJ
      generalize grow (wr.drewN nq) osq=w2 at I⊢
      clear nq osq ea ec
      go_wp2
      go_roundg (b-(i+1))
      case measure=>omega
      case rel=>
       refine⟨i+1,by go_num,by omega,by omega,by omega,ax.out _ ?_ (by have:=I.out;rw[a7.out] at this;exact this)⟩
       intro z hz
       have aQ:Sorted (ltOf D) (T++[y]):=by
        have:=HA.out.1
        rw[ao.out.1,U.out.1] at this
        exact(Sorted.app.1 this).1
       rw[U.out.1] at hz
       exact ae.out.ntrans _ _ _ ak.out (sorted_last ae.out aQ z hz)
    ·have aB:decide ((j:Int)>(a:Int))=false:=decide_eq_false (by omega)
     have hjaz':¬(a:Int)<(j:Int):=by omega
     go_wp2_with fail
     go_big_region_o
     have I:Aside (SW enc w0 blk h (P++(E++x::(C++(B++S)))).toArray wr.drew):=K.out.2.2.2.drew
     have aU:Aside (E=[]):=List.length_eq_zero_iff.1 (by rw[K.out.2.1];omega)
     clear K
     generalize wr.drew=w2 at I⊢
     go_wp2
     go_roundg (b-(i+1))
     case measure=>omega
     case rel=>exact⟨i+1,by go_num,by omega,by omega,by omega,ax.out _ (by rw[aU.out];intro y hy;simp at hy) I.out⟩
  ·have aE:¬(i:Int)<(b:Int):=by omega
   go_wp2
   go_end0
   obtain⟨A,h1,h2,h3⟩:=H1.out
   obtain⟨k1,k2,k3⟩:=HL.out
   rw[List.drop_eq_nil_of_le (by omega)] at h3
   rw[List.take_of_length_le (by omega)] at h2
   exact⟨rfl,A,h1,h2,by simpa using h3⟩
end Stb
end Go.Proofs.YtofidnijfnhpaaaGreatDoor
