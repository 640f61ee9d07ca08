import Derived.Shelf.SlSortCmp.Kit1
import Derived.Sort.WalkA
import Derived.Sort.WalkB2
import Derived.Sort.WalkB12
import Derived.Deep.LoopGhost
import Derived.Deep.Cut
import Derived.Deep.DeepCutAuto
import Derived.Test.YtjlgejennghhlaaGreatDoorQ01
set_option linter.unusedSimpArgs false
set_option linter.unusedVariables false
set_option linter.unusedSectionVars false
set_option maxRecDepth 1000000
set_option maxHeartbeats 16000000
namespace Go.Proofs.YtjlgejennghhlaaGreatDoor
namespace Stb
variable {α:Type}
structure Ord (lt:α->α->Bool):Prop where
 asymm:∀a b,lt a b=true->lt b a=false
 ntrans:∀a b c,lt a b=false->lt b c=false->lt a c=false
theorem Ord.irr {lt:α->α->Bool} (h:Ord lt) (a:α):lt a a=false:=by
 cases e:lt a a with
 |false=>rfl
 |true=>exact(h.asymm a a e).symm.trans e|>.symm▸rfl
theorem Ord.lt_le {lt:α->α->Bool} (h:Ord lt) {a b c:α} (y:lt a b=true) (D:lt c b=false):lt a c=true:=by
 cases e:lt a c with
 |true=>rfl
 |false=>exact absurd (h.ntrans a c b e D) (by rw[y];decide)
theorem Ord.le_lt {lt:α->α->Bool} (h:Ord lt) {a b c:α} (y:lt b a=false) (D:lt b c=true):lt a c=true:=by
 cases e:lt a c with
 |true=>rfl
 |false=>exact absurd (h.ntrans b a c y e) (by rw[D];decide)
def eqv (lt:α->α->Bool) (x y:α):Bool:= !lt x y&& !lt y x
def Sorted (lt:α->α->Bool) (l:List α):Prop:=l.Pairwise (fun a b=>lt b a=false)
def Same (lt:α->α->Bool) (l l':List α):Prop:=∀x,l.filter (eqv lt x)=l'.filter (eqv lt x)
theorem Same.refl (lt:α->α->Bool) (l:List α):Same lt l l:=fun _=>rfl
theorem Same.trans {lt:α->α->Bool} {a b c:List α} (h:Same lt a b) (y:Same lt b c):Same lt a c:=fun x=>(h x).trans (y x)
theorem Same.symm {lt:α->α->Bool} {a b:List α} (h:Same lt a b):Same lt b a:=fun x=>(h x).symm
theorem Same.app {lt:α->α->Bool} {a b c d:List α} (h:Same lt a b) (y:Same lt c d):Same lt (a++c) (b++d):=fun x=>by rw[List.filter_append,List.filter_append,h x,y x]
theorem eqv_self {lt:α->α->Bool} (h:Ord lt) (x:α):eqv lt x x=true:=by simp[eqv,h.irr]
theorem Same.mem {lt:α->α->Bool} (D:Ord lt) {a b:List α} (h:Same lt a b) {x:α}:x∈a↔x∈b:=by
 have y:∀l:List α,x∈l↔x∈l.filter (eqv lt x):=fun l=>by rw[List.mem_filter];exact⟨fun h=>⟨h,eqv_self D x⟩,fun h=>h.1⟩
 rw[y a,y b,h x]
theorem Same.swap {lt:α->α->Bool} (J:Ord lt) {X Y:List α} (h:∀x∈X,∀y∈Y,lt y x=true):Same lt (X++Y) (Y++X):=by
 intro z;rw[List.filter_append,List.filter_append]
 by_cases hx:X.filter (eqv lt z)=[]
 ·rw[hx];simp
 ·have K:Y.filter (eqv lt z)=[]:=by
   obtain⟨x,D⟩:=List.exists_mem_of_ne_nil _ hx;rw[List.mem_filter] at D;rw[List.filter_eq_nil_iff];intro y I F;have M:=h x D.1 y I;have H:=D.2;simp only[eqv,Bool.and_eq_true,Bool.not_eq_true'] at H F
   --lt y z=false,lt z x=false->lt y x=false
   exact absurd (J.ntrans y z x F.2 H.1) (by rw[M];decide)
  rw[K];simp
theorem Sorted.app {lt:α->α->Bool} {X Y:List α}:Sorted lt (X++Y)↔Sorted lt X/\Sorted lt Y/\∀x∈X,∀y∈Y,lt y x=false:=by
 unfold Sorted;exact List.pairwise_append
theorem sorted_one {lt:α->α->Bool} (D:Ord lt):∀{a b:List α},Sorted lt a->Sorted lt b->Same lt a b->a=b
 |[],[],_,_,_=>rfl
 |[],y::b,_,_,h=>absurd ((h.mem D (x:=y)).2 (by simp)) (by simp)
 |x::a,[],_,_,h=>absurd ((h.mem D (x:=x)).1 (by simp)) (by simp)
 |x::a,y::b,ha,hb,h=>by
  have H:eqv lt x y=true:=by
   simp only[eqv,Bool.and_eq_true,Bool.not_eq_true'];constructor
   ·have:=(h.mem D (x:=x)).1 (by simp);rcases List.mem_cons.1 this with e|F
    ·subst e;exact D.irr _
    ·exact(List.pairwise_cons.1 hb).1 x F
   ·have:=(h.mem D (x:=y)).2 (by simp);rcases List.mem_cons.1 this with e|F
    ·subst e;exact D.irr _
    ·exact(List.pairwise_cons.1 ha).1 y F
  have I:=h x;rw[List.filter_cons_of_pos (eqv_self D x),List.filter_cons_of_pos H] at I;obtain⟨e,J⟩:=List.cons.inj I;subst e;have:Same lt a b:=fun z=>by
   have:=h z
   by_cases hz:eqv lt z x=true
   ·rw[List.filter_cons_of_pos hz,List.filter_cons_of_pos hz] at this;exact(List.cons.inj this).2
   ·rw[List.filter_cons_of_neg hz,List.filter_cons_of_neg hz] at this;exact this
  rw[sorted_one D (List.pairwise_cons.1 ha).2 (List.pairwise_cons.1 hb).2 this]
theorem Same.len {lt:α->α->Bool} (D:Ord lt):∀{a b:List α},Same lt a b->a.length=b.length
 |[],b,h=>by
  cases b with
  |nil=>rfl
  |cons y b=>exact absurd ((h.mem D (x:=y)).2 (by simp)) (by simp)
 |x::a,b,h=>by
  have Z:=(h.mem D (x:=x)).1 (by simp)
  --the first of b that is alike is x
  have I:=h x;rw[List.filter_cons_of_pos (eqv_self D x)] at I;obtain⟨p,q,U,K,h2⟩:∃p q,b=p++x::q/\(∀y∈p,¬eqv lt x y=true)/\a.filter (eqv lt x)=q.filter (eqv lt x):=by
   obtain⟨p,q,M,V,e3,O⟩:=List.filter_eq_cons_iff.1 I.symm;exact⟨p,q,M,V,O.symm⟩
  subst U;have:Same lt a (p++q):=fun z=>by
   have H:=h z
   by_cases hzx:eqv lt z x=true
   ·have J:p.filter (eqv lt z)=[]:=by
     rw[List.filter_eq_nil_iff];intro y N F;refine K y N ?_;simp only[eqv,Bool.and_eq_true,Bool.not_eq_true'] at hzx F⊢;exact⟨D.ntrans _ _ _ hzx.2 F.1,D.ntrans _ _ _ F.2 hzx.1⟩
    rw[List.filter_append,J] at H⊢;rw[List.filter_cons_of_pos hzx,List.nil_append,List.filter_cons_of_pos hzx] at H;rw[List.nil_append];exact(List.cons.inj H).2
   ·rw[List.filter_cons_of_neg hzx,List.filter_append,List.filter_cons_of_neg hzx] at H;rw[List.filter_append];exact H
  have:=Same.len D this;simp at this⊢;omega
theorem Same.filter {lt:α->α->Bool} {a b:List α} (h:Same lt a b) (p:α->Bool):Same lt (a.filter p) (b.filter p):=fun x=>by
 have:=congrArg (List.filter p) (h x);rw[List.filter_filter,List.filter_filter] at this;rw[List.filter_filter,List.filter_filter];have e:(fun a=>eqv lt x a&&p a)=(fun a=>p a&&eqv lt x a):=by funext a;exact Bool.and_comm _ _
 rw[e];exact this
theorem Sorted.filter {lt:α->α->Bool} {a:List α} (h:Sorted lt a) (p:α->Bool):Sorted lt (a.filter p):=List.Pairwise.filter p h
theorem put_one {lt:α->α->Bool} (H:Ord lt) {A C:List α} {x:α} (N:Sorted lt (A++C)) (F:∀c∈C,lt x c=true) (O:∀a∈A,lt x a=false):Sorted lt (A++x::C)/\Same lt (A++C++[x]) (A++x::C):=by
 obtain⟨K,J,M⟩:=Sorted.app.1 N;refine⟨Sorted.app.2 ⟨K,List.pairwise_cons.2 ⟨fun c D=>H.asymm _ _ (F c D),J⟩,?_⟩,?_⟩
 ·intro a I y h;rcases List.mem_cons.1 h with rfl|h
  ·exact O a I
  ·exact M a I y h
 ·rw[List.append_assoc];refine(Same.refl lt A).app ?_;refine(Same.swap H (X:=C) (Y:=[x]) ?_);intro c D y h;simp at h;subst h;exact F c D
theorem sym_cut {lt:α->α->Bool} (K:Ord lt) {H J I F M N:List α} (hL:Sorted lt (H++J)) (hR:Sorted lt (I++F)) (V:∀x∈J,∀y∈I,lt y x=true) (Z:∀x∈H,∀y∈F,lt y x=false)
 (hM:Sorted lt M) (U:Same lt (H++I) M) (hN:Sorted lt N) (O:Same lt (J++F) N):Sorted lt (M++N)/\Same lt ((H++J)++(I++F)) (M++N):=by
 obtain⟨a1,a2,a3⟩:=Sorted.app.1 hL;obtain⟨b1,b2,b3⟩:=Sorted.app.1 hR;refine⟨Sorted.app.2 ⟨hM,hN,?_⟩,?_⟩
 ·intro x D y h;rw[<-U.mem K] at D;rw[<-O.mem K] at h;rcases List.mem_append.1 D with D|D<;>rcases List.mem_append.1 h with h|h
  ·exact a3 x D y h
  ·exact Z x D y h
  ·exact K.asymm _ _ (V y h x D)
  ·exact b3 x D y h
 ·have e:Same lt ((H++J)++(I++F)) ((H++I)++(J++F)):=by
   rw[List.append_assoc,List.append_assoc];refine(Same.refl lt H).app ?_;rw[<-List.append_assoc,<-List.append_assoc];exact(Same.swap K V).app (Same.refl lt F)
  exact e.trans (U.app O)
theorem put_first {lt:α->α->Bool} (D:Ord lt) {A C:List α} {x:α} (O:Sorted lt (A++C)) (H:∀a∈A,lt a x=true) (J:∀c∈C,lt c x=false):Sorted lt (A++x::C)/\Same lt (x::(A++C)) (A++x::C):=by
 obtain⟨M,K,N⟩:=Sorted.app.1 O;refine⟨Sorted.app.2 ⟨M,List.pairwise_cons.2 ⟨J,K⟩,?_⟩,?_⟩
 ·intro a F y h;rcases List.mem_cons.1 h with rfl|h
  ·exact D.asymm _ _ (H a F)
  ·exact N a F y h
 ·have:=(Same.swap D (X:=[x]) (Y:=A) (by intro z I y h;simp at I;subst I;exact H y h)).app (Same.refl lt C);simpa using this
theorem sorted_head {lt:α->α->Bool} (F:Ord lt) {y:α} {l:List α} (h:Sorted lt (y::l)):∀x∈y::l,lt x y=false:=by
 intro x D;rcases List.mem_cons.1 D with rfl|D
 ·exact F.irr _
 ·exact(List.pairwise_cons.1 h).1 x D
theorem sorted_last {lt:α->α->Bool} (H:Ord lt) {F:α} {l:List α} (h:Sorted lt (l++[F])):∀y∈l++[F],lt F y=false:=by
 intro y D;rcases List.mem_append.1 D with D|D
 ·exact(Sorted.app.1 h).2.2 y D F (by simp)
 ·simp at D;subst D;exact H.irr _
theorem sym_find {lt:α->α->Bool} (F:Ord lt) {P L R S:List α} {a m b mid start:Nat} (J:P.length=a) (hL:L.length=m-a) (hR:R.length=b-m) (ai:a<m) (al:m<b) (ag:mid=(a+b)/2) (sL:Sorted lt L) (sR:Sorted lt R)
 (M:(if mid<m then mid+m-b else a)<=start) (K:start<=if mid<m then mid else m)
 (hA:start=(if mid<m then mid+m-b else a)\/∀x y,(P++(L++(R++S)))[start-1]? =some x->(P++(L++(R++S)))[mid+m-start]? =some y->lt y x=false)
 (hB:start=(if mid<m then mid else m)\/∀x y,(P++(L++(R++S)))[start]? =some x->(P++(L++(R++S)))[mid+m-1-start]? =some y->lt y x=true):
 ∃L1 L2 R1 R2,L=L1++L2/\R=R1++R2/\L1.length=start-a/\R1.length=mid-start/\(∀x∈L2,∀y∈R1,lt y x=true)/\∀x∈L1,∀y∈R2,lt y x=false:=by
 have ak:a<=start:=by split at M<;>omega
 have ao:start<=m:=by split at K<;>omega
 have am:start<=mid:=by split at K<;>omega
 have aj:mid+m-start<=b:=by split at M<;>omega
 refine⟨L.take (start-a),L.drop (start-a),R.take (mid-start),R.drop (mid-start),(List.take_append_drop _ _).symm,(List.take_append_drop _ _).symm,by rw[List.length_take];omega,by rw[List.length_take];omega,?_,?_⟩
 ·by_cases hm:start=m
  ·intro x D;rw[List.drop_eq_nil_of_le (by omega)] at D;simp at D
  by_cases hd:start=mid
  ·intro x _ y h;rw[hd,Nat.sub_self,List.take_zero] at h;simp at h
  have hB':=hB.resolve_left (by split<;>omega);have U:(P++(L++(R++S)))[start]? =some (L[start-a]'(by omega)):=by
   rw[List.getElem?_append_right (by omega),List.getElem?_append_left (by omega),J,List.getElem?_eq_getElem]
  have O:(P++(L++(R++S)))[mid+m-1-start]? =some (R[mid-start-1]'(by omega)):=by
   rw[List.getElem?_append_right (by omega),List.getElem?_append_right (by omega),List.getElem?_append_left (by omega),J,hL,<-List.getElem?_eq_getElem]
   congr 1
   omega
  have N:=hB' _ _ U O;have Z:L.drop (start-a)=L[start-a]'(by omega)::L.drop (start-a+1):=by rw[List.drop_eq_getElem_cons (by omega)]
  have ad:R.take (mid-start)=R.take (mid-start-1)++[R[mid-start-1]'(by omega)]:=by
   have:=List.take_succ_eq_append_getElem (l:=R) (i:=mid-start-1) (by omega);rw[show mid-start-1+1=mid-start by omega] at this;exact this
  have I:=(Sorted.app.1 ((List.take_append_drop (start-a) L).symm▸sL)).2.1;have H:=(Sorted.app.1 ((List.take_append_drop (mid-start) R).symm▸sR)).1;rw[Z] at I⊢;rw[ad] at H⊢;intro x D y h;have k1:=sorted_head F I x D;have k2:=sorted_last F H y h;exact F.lt_le (F.le_lt k2 N) k1
 ·by_cases hm:start=a
  ·intro x D;rw[hm,Nat.sub_self,List.take_zero] at D;simp at D
  by_cases hd:mid+m-start=b
  ·intro x _ y h;rw[List.drop_eq_nil_of_le (by omega)] at h;simp at h
  have hA':=hA.resolve_left (by split<;>omega);have U:(P++(L++(R++S)))[start-1]? =some (L[start-a-1]'(by omega)):=by
   rw[List.getElem?_append_right (by omega),List.getElem?_append_left (by omega),J,<-List.getElem?_eq_getElem]
   congr 1
   omega
  have O:(P++(L++(R++S)))[mid+m-start]? =some (R[mid-start]'(by omega)):=by
   rw[List.getElem?_append_right (by omega),List.getElem?_append_right (by omega),List.getElem?_append_left (by omega),J,hL,<-List.getElem?_eq_getElem]
   congr 1
   omega
  have N:=hA' _ _ U O;have V:R.drop (mid-start)=R[mid-start]'(by omega)::R.drop (mid-start+1):=by rw[List.drop_eq_getElem_cons (by omega)]
  have ae:L.take (start-a)=L.take (start-a-1)++[L[start-a-1]'(by omega)]:=by
   have:=List.take_succ_eq_append_getElem (l:=L) (i:=start-a-1) (by omega);rw[show start-a-1+1=start-a by omega] at this;exact this
  have I:=(Sorted.app.1 ((List.take_append_drop (start-a) L).symm▸sL)).1;have H:=(Sorted.app.1 ((List.take_append_drop (mid-start) R).symm▸sR)).2.1;rw[V] at H⊢;rw[ae] at I⊢;intro x D y h;have k1:=sorted_last F I x D;have k2:=sorted_head F H y h;exact F.ntrans _ _ _ (F.ntrans _ _ _ k2 N) k1
theorem cut_two {lt:α->α->Bool} {R:List α} (N:Sorted lt R) (k:Nat) (hk:k<=R.length) (p:α->Bool) (K:∀x y,lt y x=false->p x=false->p y=false) (O:∀x y,lt y x=false->p y=true->p x=true)
 (J:k=0\/∀y,R[k-1]? =some y->p y=true) (V:k=R.length\/∀y,R[k]? =some y->p y=false) (M:Ord lt):
 ∃R1 R2,R=R1++R2/\R1.length=k/\(∀y∈R1,p y=true)/\∀y∈R2,p y=false:=by
 refine⟨R.take k,R.drop k,(List.take_append_drop _ _).symm,by rw[List.length_take];omega,?_,?_⟩
 ·rcases J with rfl|J
  ·intro y D;simp at D
  ·intro y D;have Z:0<k:=by
    rcases Nat.eq_zero_or_pos k with rfl|h
    ·simp at D
    ·exact h
   have I:=J _ (List.getElem?_eq_getElem (by omega));have U:R.take k=R.take (k-1)++[R[k-1]'(by omega)]:=by
    have:=List.take_succ_eq_append_getElem (l:=R) (i:=k-1) (by omega);rw[show k-1+1=k by omega] at this;exact this
   have F:=(Sorted.app.1 ((List.take_append_drop k R).symm▸N)).1;rw[U] at F D;exact O _ _ (sorted_last M F y D) I
 ·intro y D;have H:k<R.length:=by
   rcases Nat.lt_or_ge k R.length with h|h
   ·exact h
   ·rw[List.drop_eq_nil_of_le h] at D;simp at D
  have I:=V.resolve_left (by omega) _ (List.getElem?_eq_getElem H);have F:=(Sorted.app.1 ((List.take_append_drop k R).symm▸N)).2.1;rw[List.drop_eq_getElem_cons H] at F D;exact K _ _ (sorted_head M F y D) I
theorem find_first {lt:α->α->Bool} (D:Ord lt) {P R S:List α} {x:α} {a m b i:Nat} (O:P.length=a) (N:m=a+1) (U:R.length=b-m) (K:m<=i) (M:i<=b) (H:Sorted lt R)
 (J:i=m\/∀y,(P++([x]++(R++S)))[i-1]? =some y->lt y x=true) (I:i=b\/∀y,(P++([x]++(R++S)))[i]? =some y->lt y x=false):
 ∃R1 R2,R=R1++R2/\R1.length=i-m/\(∀y∈R1,lt y x=true)/\∀y∈R2,lt y x=false:=by
 refine cut_two H (i-m) (by omega) (fun y=>lt y x) (fun u v h1 h2=>D.ntrans _ _ _ h1 h2) (fun u v h1 h2=>D.le_lt h1 h2) ?_ ?_ D
 ·rcases J with h|h
  ·left;omega
  ·by_cases h0:i=m
   ·left;omega
   ·right;intro y F
    refine h y ?_;rw[List.getElem?_append_right (by omega),List.getElem?_append_right (by simp;omega),List.getElem?_append_left (by simp;omega),<-F]
    congr 1
    simp;omega
 ·rcases I with h|h
  ·left;omega
  ·by_cases h0:i=b
   ·left;omega
   ·right;intro y F
    refine h y ?_;rw[List.getElem?_append_right (by omega),List.getElem?_append_right (by simp;omega),List.getElem?_append_left (by simp;omega),<-F]
    congr 1
    simp;omega
theorem find_last {lt:α->α->Bool} (D:Ord lt) {P L S:List α} {x:α} {a m i:Nat} (N:P.length=a) (O:L.length=m-a) (M:a<=i) (K:i<=m) (H:Sorted lt L)
 (J:i=a\/∀y,(P++(L++S))[i-1]? =some y->lt x y=false) (I:i=m\/∀y,(P++(L++S))[i]? =some y->lt x y=true):
 ∃L1 L2,L=L1++L2/\L1.length=i-a/\(∀y∈L1,lt x y=false)/\∀y∈L2,lt x y=true:=by
 have:=cut_two H (i-a) (by omega) (fun y=> !lt x y) (fun u v h1 h2=>?_) (fun u v h1 h2=>?_) ?_ ?_ D
 ·simpa using this
 ·simp at h2⊢;exact D.lt_le h2 h1
 ·simp at h2⊢;exact D.ntrans _ _ _ h2 h1
 ·rcases J with h|h
  ·left;omega
  ·by_cases h0:i=a
   ·left;omega
   ·right;intro y F
    have:=h y (by
     rw[List.getElem?_append_right (by omega),List.getElem?_append_left (by omega),<-F]
     congr 1
     omega)
    simp[this]
 ·rcases I with h|h
  ·left;omega
  ·by_cases h0:i=m
   ·left;omega
   ·right;intro y F
    have:=h y (by
     rw[List.getElem?_append_right (by omega),List.getElem?_append_left (by omega),<-F]
     congr 1
     omega)
    simp[this]
end Stb
end Go.Proofs.YtjlgejennghhlaaGreatDoor
namespace Go.Proofs.YtjlgejennghhlaaGreatDoor
namespace Stb
open Go.Shelf Go.RowKit Go.Lib Go.Sort
variable {α:Type} [Inhabited α]
theorem arr_at (A C:List α) (x:α) (k:Nat) (h:k=A.length):((A++x::C).toArray)[k]! =x:=by
 subst h;simp
theorem swp_list (A B C:List α) (x y:α) (i j:Nat) (h:i=A.length) (H:j=A.length+1+B.length):swp (A++x::(B++y::C)).toArray i j=(A++y::(B++x::C)).toArray:=by
 have D:=arr_at A (B++y::C) x i h;have F:((A++x::(B++y::C)).toArray)[j]! =y:=by
  have:=arr_at (A++x::B) C y j (by simp;omega);simpa using this
 unfold swp;rw[D,F];subst h;simp only[List.setIfInBounds_toArray]
 congr 1
 rw[List.set_append_right _ _ (Nat.le_refl _),Nat.sub_self,List.set_cons_zero,List.set_append_right _ _ (by omega),show j-A.length=B.length+1 by omega,List.set_cons_succ,List.set_append_right _ _ (Nat.le_refl _),Nat.sub_self,List.set_cons_zero]
theorem swp_list' (A B C:List α) (x y:α) (i j:Nat) (h:i=A.length) (H:j=A.length+1+B.length):swp (A++x::(B++y::C)).toArray j i=(A++y::(B++x::C)).toArray:=by
 have D:=arr_at A (B++y::C) x i h;have F:((A++x::(B++y::C)).toArray)[j]! =y:=by
  have:=arr_at (A++x::B) C y j (by simp;omega);simpa using this
 unfold swp;rw[D,F];subst h;simp only[List.setIfInBounds_toArray]
 congr 1
 rw[List.set_append_right _ _ (by omega),show j-A.length=B.length+1 by omega,List.set_cons_succ,List.set_append_right _ _ (Nat.le_refl _),Nat.sub_self,List.set_cons_zero,List.set_append_right _ _ (Nat.le_refl _),Nat.sub_self,List.set_cons_zero]
theorem arr_get (l:List α) (k:Nat) (h:k<l.length):l[k]? =some (l.toArray[k]!):=by
 rw[List.getElem?_eq_getElem h,getElem!_pos _ _ (by simpa using h)];simp
theorem swapRange_any (enc:α->Value) (cv:Value) (blk h az a b n N:Nat) (P X M Y S:List α) (d0:Array α) (w0 w:World) (R:Row1 enc w0 blk h d0) (hN:d0.size=N) (ag:(P++(X++(M++(Y++S)))).length=N) (ha:P.length=a) (hX:X.length=n) (hY:Y.length=n) (hb:b=a+n+M.length) (aR:N<4611686018427387904)
 (S0:SW enc w0 blk h (P++(X++(M++(Y++S)))).toArray w):
 Calls Tryz.prog 221 #[.slice (some ⟨blk,h,none⟩) N az,.int .i64 a,.int .i64 b,.int .i64 n,cv] w fun e w'=>e=.returned (.tuple #[])/\SW enc w0 blk h (P++(Y++(M++(X++S)))).toArray w':=by
 have aH:Tryz.prog.follows .mixedOrders=true:=by kernel_rfl
 have ap:=R.hO.cells;simp only[Value.cells] at ap;have aQ:=R.hO.store Tryz.prog;have HS:Aside (SW enc w0 blk h (P++(X++(M++(Y++S)))).toArray w):=S0;have hlen':P.length+(X.length+(M.length+(Y.length+S.length)))=N:=by simpa using ag
 clear S0 ag;go_enter Tryz.func221,Tryz.ntmps221;go_wp2
 go_loopg [10] n (fun g1 vi wr=>∃(i:Nat) (F X2 D Y2:List α),vi=.int .i64 i/\i<=n/\n-i<=g1/\X=F++X2/\Y=D++Y2/\F.length=i/\D.length=i/\Aside (SW enc w0 blk h (P++(D++(X2++(M++(F++(Y2++S)))))).toArray wr))
 case atStart=>exact⟨0,[],X,[],Y,rfl,by omega,by omega,rfl,rfl,rfl,rfl,HS⟩
 case round=>
  clear HS;obtain⟨i,F,X2,D,Y2,rfl,hi,hg,J,K,h1,h2,V⟩:=hrel
  by_cases hlt:i<n
  ·have aj:(i:Int)<(n:Int):=by omega
   have ae:X2.length=n-i:=by rw[J,List.length_append] at hX;omega
   have af:Y2.length=n-i:=by rw[K,List.length_append] at hY;omega
   obtain⟨x,O,rfl⟩:∃x l,X2=x::l:=by cases X2 with |nil=>simp at ae;omega|cons x l=>exact⟨x,l,rfl⟩
   obtain⟨y,U,rfl⟩:∃x l,Y2=x::l:=by cases Y2 with |nil=>simp at af;omega|cons x l=>exact⟨x,l,rfl⟩
   simp only[List.length_cons] at ae af;obtain⟨H,aF⟩:∃q,q=a+i:=⟨_,rfl⟩;obtain⟨I,aG⟩:∃q,q=b+i:=⟨_,rfl⟩;have ai:(P++(D++(x::O++(M++(F++(y::U++S)))))).toArray.size=N:=by simp;omega
   obtain⟨dk,Z⟩:∃q,q=(P++(D++(x::O++(M++(F++(y::U++S)))))).toArray:=⟨_,rfl⟩;have gx:dk[H]! =x:=by rw[Z];have:=arr_at (P++D) (O++(M++(F++(y::U++S)))) x H (by simp;omega);simpa using this
   have gy:dk[I]! =y:=by rw[Z];have:=arr_at (P++(D++(x::O++(M++F)))) (U++S) y I (by simp;omega);simpa using this
   have gs:swp dk H I=(P++((D++[y])++(O++(M++((F++[x])++(U++S)))))).toArray:=by rw[Z];have:=swp_list (P++D) (O++(M++F)) (U++S) x y H I (by simp;omega) (by simp;omega);simpa using this
   rw[<-Z] at V ai;have ea:((a:Int)+(i:Int)).toNat=H:=by omega
   have pa:(0:Int)<=(a:Int)+(i:Int):=by omega
   have ba:(a:Int)+(i:Int)<(N:Int):=by omega
   have ra:IntKind.i64.wrap ((a:Int)+(i:Int))=(a:Int)+(i:Int):=by rw[IntKind.wrap_i64];omega
   have ec:((b:Int)+(i:Int)).toNat=I:=by omega
   have pc:(0:Int)<=(b:Int)+(i:Int):=by omega
   have bc:(b:Int)+(i:Int)<(N:Int):=by omega
   have rc:IntKind.i64.wrap ((b:Int)+(i:Int))=(b:Int)+(i:Int):=by rw[IntKind.wrap_i64];omega
   have S3:Aside (SW enc w0 blk h (swp dk H I) ((wr.setCell ⟨blk,h+H,none⟩ (enc y)).setCell ⟨blk,h+I,none⟩ (enc x)).drew):=by
    have:=V.out.swapped R H I (by omega) (by omega);rw[gx,gy] at this;exact this
   have ca:=V.out.c1 R (by omega) H (by omega);have cb:=V.out.c1 R (by omega) I (by omega);have fa:=V.out.f1 R (by omega) H (by omega);have fb:=V.out.f1 R (by omega) I (by omega);obtain⟨u,cc⟩:=V.out.c2 R (by omega) H I (by omega) (by omega) (enc y);rw[gx] at ca;rw[gy] at cb;have GS:Aside (swp dk H I=(P++((D++[y])++(O++(M++((F++[x])++(U++S)))))).toArray):=gs;have ac:Aside (X=F++x::O/\Y=D++y::U/\F.length=i/\D.length=i):=⟨J,K,h1,h2⟩;have HB:Aside (b=a+n+M.length):=hb;clear V gx gy gs Z J K h1 h2 ai ae af aF aG hb ha hX hY hlen';go_wp2_with fail
   go_big_region_o
   clear ca cb cc fa fb;generalize ((wr.setCell ⟨blk,h+H,none⟩ (enc y)).setCell ⟨blk,h+I,none⟩ (enc x)).drew=w3 at S3⊢;clear ea ec;go_wp2
   go_roundg (gk-1)
   case measure=>omega
   case rel=>exact⟨i+1,F++[x],O,D++[y],U,by go_num,by omega,by omega,by rw[ac.out.1];simp,by rw[ac.out.2.1];simp,by simp[ac.out.2.2.1],by simp[ac.out.2.2.2],by have:=S3.out;rw[GS.out] at this;exact this⟩
  ·have aj:¬((i:Int)<(n:Int)):=by omega
   have aq:X2=[]:=by rw[J,List.length_append] at hX;exact List.length_eq_zero_iff.1 (by omega)
   have aw:Y2=[]:=by rw[K,List.length_append] at hY;exact List.length_eq_zero_iff.1 (by omega)
   subst aq aw;simp only[List.append_nil] at J K;subst J K;go_wp2
   go_end0
   refine⟨rfl,?_⟩;simpa using V.out
end Stb
end Go.Proofs.YtjlgejennghhlaaGreatDoor
namespace Go.Proofs.YtjlgejennghhlaaGreatDoor
namespace Stb
open Go.Shelf Go.RowKit Go.Lib Go.Sort
variable {α:Type} [Inhabited α]
omit [Inhabited α] in
theorem split_at (l:List α) (k:Nat) (h:k<=l.length):∃l1 l2,l=l1++l2/\l1.length=k:=⟨l.take k,l.drop k,(List.take_append_drop _ _).symm,by rw[List.length_take];omega⟩
theorem rotate_any (enc:α->Value) (cv:Value) (blk h ao a m b N:Nat) (P X Y S:List α) (d0:Array α) (w0 w:World) (R:Row1 enc w0 blk h d0) (hN:d0.size=N) (ap:(P++(X++(Y++S))).length=N) (ha:P.length=a) (hX:X.length+a=m) (hY:Y.length+m=b) (aE:0<X.length) (aD:0<Y.length) (aJ:N<4611686018427387904)
 (S0:SW enc w0 blk h (P++(X++(Y++S))).toArray w):
 Calls Tryz.prog 213 #[.slice (some ⟨blk,h,none⟩) N ao,.int .i64 a,.int .i64 m,.int .i64 b,cv] w fun e w'=>e=.returned (.tuple #[])/\SW enc w0 blk h (P++(Y++(X++S))).toArray w':=by
 have HS:Aside (SW enc w0 blk h (P++(X++(Y++S))).toArray w):=S0;have hlen':P.length+(X.length+(Y.length+S.length))=N:=by simpa using ap
 have ak:Aside (∀(V:World) (p q k:Nat) (A B M C D:List α),(A++(B++(M++(C++D)))).length=N->A.length=p->B.length=k->C.length=k->q=p+k+M.length->SW enc w0 blk h (A++(B++(M++(C++D)))).toArray V->Calls Tryz.prog 221 #[.slice (some ⟨blk,h,none⟩) N ao,.int .i64 p,.int .i64 q,.int .i64 k,cv] V fun e w'=>e=.returned (.tuple #[])/\SW enc w0 blk h (A++(C++(M++(B++D)))).toArray w'):=
  fun V p q k A B M C D U O h3 K Z h6=>swapRange_any enc cv blk h ao p q k N A B M C D d0 w0 V R hN U O h3 K Z aJ h6
 have aW:m<=N:=by omega
 have aX:b<=N:=by omega
 have aT:a<m:=by omega
 have aV:m<b:=by omega
 obtain⟨xl,au⟩:∃q,q=X.length:=⟨_,rfl⟩;obtain⟨yl,ax⟩:∃q,q=Y.length:=⟨_,rfl⟩;have ay:m=a+xl:=by omega
 have az:b=m+yl:=by omega
 have HL:Aside (P.length=a/\X.length=xl/\Y.length=yl/\P.length+(X.length+(Y.length+S.length))=N):=⟨ha,au.symm,ax.symm,hlen'⟩;have aM:0<xl:=by omega
 have aP:0<yl:=by omega
 have aA:Aside (m=a+xl/\b=m+yl):=⟨ay,az⟩;clear S0 ap hlen' R hN ha hX hY aE aD au ax;have e1:(m:Int)-(a:Int)=(xl:Int):=by omega
 have e2:(b:Int)-(m:Int)=(yl:Int):=by omega
 clear ay az;go_enter Tryz.func213,Tryz.ntmps213;go_wp2
 go_loopg [10,11] (xl+yl) (fun g1 vi vj wr=>∃(i j:Nat) (y J I F:List α),vi=.int .i64 i/\vj=.int .i64 j/\0<i/\0<j/\i<=m/\m+j<=N/\i+j<=g1/\Aside (J.length=i/\I.length=j/\y.length+i=m/\(y++(J++(I++F))).length=N/\y++(I++(J++F))=P++(Y++(X++S))/\SW enc w0 blk h (y++(J++(I++F))).toArray wr))
 case atStart=>exact⟨xl,yl,P,X,Y,S,by first|rfl|(congr 1),by first|rfl|(congr 1),aM,aP,by omega,by have:=aA.out;omega,by omega,⟨HL.out.2.1,HL.out.2.2.1,by rw[HL.out.1];have:=aA.out;omega,by simpa using HL.out.2.2.2,rfl,HS.out⟩⟩
 case round=>
  clear HS HL;obtain⟨i,j,y,J,I,F,rfl,rfl,aI,aL,aH,aO,hg,H⟩:=hrel
  by_cases hij:i=j
  ·subst hij;go_wp2_with (go_at_call 221;fail);rw[show(m:Int)-(i:Int)=((m-i:Nat):Int) by omega];obtain⟨U,O,h3,K,Z,h6⟩:=H.out;refine(ak.out wr (m-i) m i y J [] I F (by simpa using K) (by omega) U O (by simp;omega) (by simpa using h6)).mono ?_;rintro e w' ⟨rfl,hS⟩;rw[List.nil_append,Z] at hS;have HF:Aside _:=hS;clear hS U O h3 K Z h6 H;go_wp2
   go_end0
   exact⟨rfl,HF.out⟩
  ·by_cases aU:j<i
   ·have hgt':(j:Int)<(i:Int):=by omega
    have aF:¬((i:Int)=(j:Int)):=by omega
    go_wp2_with (go_at_call 221;fail);rw[show(m:Int)-(i:Int)=((m-i:Nat):Int) by omega];obtain⟨U,O,h3,K,Z,h6⟩:=H.out;obtain⟨X1,X2,rfl,aq⟩:=split_at J j (by omega);have av:X2.length=i-j:=by rw[List.length_append] at U;omega
    refine(ak.out wr (m-i) m j y X1 X2 I F (by simpa using K) (by omega) aq O (by omega) (by simpa using h6)).mono ?_;rintro e w' ⟨rfl,hS⟩;have HF:Aside (X2.length=i-j/\X1.length=j/\(y++I).length+(i-j)=m/\((y++I)++(X2++(X1++F))).length=N/\(y++I)++(X1++(X2++F))=P++(Y++(X++S))/\SW enc w0 blk h ((y++I)++(X2++(X1++F))).toArray w'):=⟨av,aq,by rw[List.length_append];omega,by simp only[List.length_append] at K⊢;omega,by rw[<-Z];simp,by simpa using hS⟩;clear hS U O h3 K Z h6 H aq av;go_wp2
    go_roundg (i+j-j)
    case measure=>omega
    case rel=>exact⟨i-j,j,y++I,X2,X1,F,by first|go_num|(congr 1;omega),rfl,by omega,aL,by omega,aO,by omega,HF⟩
   ·have hgt':¬(j:Int)<(i:Int):=by omega
    have aF:¬((i:Int)=(j:Int)):=by omega
    go_wp2_with (go_at_call 221;fail);rw[show(m:Int)-(i:Int)=((m-i:Nat):Int) by omega,show(m:Int)+(j:Int)-(i:Int)=((m+j-i:Nat):Int) by omega];obtain⟨U,O,h3,K,Z,h6⟩:=H.out;obtain⟨Y1,Y2,rfl,aw⟩:=split_at I (j-i) (by omega);have al:Y2.length=i:=by rw[List.length_append] at O;omega
    refine(ak.out wr (m-i) (m+j-i) i y J Y1 Y2 F (by simpa using K) (by omega) U al (by omega) (by simpa using h6)).mono ?_;rintro e w' ⟨rfl,hS⟩;have HF:Aside (Y2.length=i/\Y1.length=j-i/\y.length+i=m/\(y++(Y2++(Y1++(J++F)))).length=N/\y++(Y1++(Y2++(J++F)))=P++(Y++(X++S))/\SW enc w0 blk h (y++(Y2++(Y1++(J++F)))).toArray w'):=⟨al,aw,h3,by simp only[List.length_append] at K⊢;omega,by rw[<-Z];simp,hS⟩;clear hS U O h3 K Z h6 H aw al;go_wp2
    go_roundg (i+j-i)
    case measure=>omega
    case rel=>exact⟨i,j-i,y,Y2,Y1,J++F,rfl,by first|go_num|(congr 1;omega),aI,by omega,aH,by omega,by omega,HF⟩
end Stb
end Go.Proofs.YtjlgejennghhlaaGreatDoor
namespace Go.Proofs.YtjlgejennghhlaaGreatDoor
namespace Stb
open Go.Shelf Go.RowKit Go.Lib Go.Sort
variable {α:Type} [Inhabited α]
omit [Inhabited α] in
theorem sorted_short (lt:α->α->Bool) (l:List α) (h:l.length<=1):Sorted lt l:=by
 match l,h with
 |[],_=>exact List.Pairwise.nil
 |[x],_=>exact List.pairwise_singleton _ _
theorem insertion_any (enc:α->Value) (F:α->α->Int) (g:Nat) (cb:Array Value) (blk h a2 a b N:Nat) (P M S:List α) (d0:Array α) (I w:World) (eg:∀args w,(callFunc g args).run Tryz.prog w=.ok (.enter g args) w) (ao:CmpLays1 Tryz.prog g cb enc F blk h d0.size I) (ho:Ord (ltOf F)) (R:Row1 enc I blk h d0) (hN:d0.size=N) (ak:(P++(M++S)).length=N) (ha:P.length=a) (hb:b=a+M.length) (br:N<4611686018427387904)
 (S0:SW enc I blk h (P++(M++S)).toArray w):
 Calls Tryz.prog 201 #[.slice (some ⟨blk,h,none⟩) N a2,.int .i64 a,.int .i64 b,.func (.func g) #[] cb] w fun e w'=>e=.returned (.tuple #[])/\∃M',Sorted (ltOf F) M'/\Same (ltOf F) M M'/\SW enc I blk h (P++(M'++S)).toArray w':=by
 have a6:Tryz.prog.follows .mixedOrders=true:=by kernel_rfl
 have aL:=R.hO.cells;simp only[Value.cells] at aL;have bt:=R.hO.store Tryz.prog;have HC:Aside _:=ao;have hlen':P.length+(M.length+S.length)=N:=by simpa using ak
 have bw:b<=N:=by omega
 have bC:a<=b:=by omega
 have HS:Aside (∃A,Sorted (ltOf F) A/\Same (ltOf F) (M.take (a+1-a)) A/\SW enc I blk h (P++(A++(M.drop (a+1-a)++S))).toArray w):=⟨M.take (a+1-a),sorted_short _ _ (by rw[List.length_take];omega),Same.refl _ _,by rw[<-List.append_assoc (M.take _),List.take_append_drop];exact S0⟩;have HL:Aside (P.length=a/\b=a+M.length/\P.length+(M.length+S.length)=N):=⟨ha,hb,hlen'⟩;have ah:Aside (Ord (ltOf F)):=ho;clear S0 ak ao ha hb hlen' ho;go_enter Tryz.func201,Tryz.ntmps201;go_wp2
 go_loopg [8] (b-a) (fun g1 vi wr=>∃(i:Nat),vi=.int .i64 i/\a<i/\i<=b+1/\b+1-i<=g1+1/\Aside (∃A,Sorted (ltOf F) A/\Same (ltOf F) (M.take (i-a)) A/\SW enc I blk h (P++(A++(M.drop (i-a)++S))).toArray wr))
 case atStart=>exact⟨a+1,by go_num,by omega,by omega,by omega,HS⟩
 case round=>
  clear HS;obtain⟨i,rfl,bs,bx,bu,H1⟩:=hrel
  by_cases hlt:i<b
  ·have aH:(i:Int)<(b:Int):=by omega
   obtain⟨A,x,B,HA⟩:∃A x B,Aside (Sorted (ltOf F) A/\Same (ltOf F) (M.take (i-a)) A/\A.length=i-a/\M.take (i+1-a)=M.take (i-a)++[x]/\M.drop (i+1-a)=B/\P.length+(A.length+1+B.length+S.length)=N/\SW enc I blk h (P++(A++x::([]++(B++S)))).toArray wr):=by
    obtain⟨A,h1,h2,h3⟩:=H1.out;obtain⟨k1,k2,k3⟩:=HL.out;have hk:i-a<M.length:=by omega
    have ay:A.length=i-a:=by rw[<-h2.len ah.out,List.length_take];omega
    refine⟨A,M[i-a],M.drop (i+1-a),h1,h2,ay,?_,rfl,?_,?_⟩
    ·rw[show i+1-a=i-a+1 by omega,List.take_succ_eq_append_getElem hk]
    ·rw[ay,List.length_drop];omega
    ·rw[List.drop_eq_getElem_cons hk,show i-a+1=i+1-a by omega] at h3;simpa using h3
   clear H1;go_wp2
   go_loopg [9] i (fun g2 vj wr2=>∃(j:Nat) (H C:List α),vj=.int .i64 j/\a<=j/\j<=i/\j<=g2/\Aside (A=H++C/\H.length=j-a/\(∀c∈C,ltOf F x c=true)/\SW enc I blk h (P++(H++x::(C++(B++S)))).toArray wr2))
   case atStart=>exact⟨i,A,[],rfl,by omega,Nat.le_refl _,Nat.le_refl _,by simp,HA.out.2.2.1,by simp,HA.out.2.2.2.2.2.2⟩
   case round=>
    obtain⟨j,H,C,rfl,bB,bz,bD,HJ⟩:=hrel;have az:Aside (∀V:World,(∀y∈H,ltOf F x y=false)->SW enc I blk h (P++(H++x::(C++(B++S)))).toArray V->∃A,Sorted (ltOf F) A/\Same (ltOf F) (M.take (i+1-a)) A/\SW enc I blk h (P++(A++(M.drop (i+1-a)++S))).toArray V):=by
     intro V hy hV;obtain⟨k1,k2,k3,k4,k5,k6,k7⟩:=HA.out;obtain⟨q1,q2,q3,q4⟩:=HJ.out;obtain⟨p1,p2⟩:=put_one ah.out (q1▸k1) q3 hy;refine⟨H++x::C,p1,?_,by rw[k5];simpa using hV⟩;rw[k4];exact((k2.app (Same.refl _ [x])).trans (by rw[q1];exact p2))
    by_cases hja:a<j
    ·have aJ:(a:Int)<(j:Int):=by omega
     obtain⟨D,bA⟩:∃q,q+1=j:=⟨j-1,by omega⟩;have bq:(j:Int)=(D:Int)+1:=by omega
     have a9:decide ((D:Int)+1>(a:Int))=true:=decide_eq_true (by omega);have hjaz':(a:Int)<(D:Int)+1:=by omega
     obtain⟨A2,y,HY⟩:∃A2 y,Aside (H=A2++[y]/\A2.length=D-a):=by
      obtain⟨q1,q2,q3,q4⟩:=HJ.out;have ax:H≠[]:=by intro e;rw[e] at q2;simp at q2;omega
      exact⟨H.dropLast,H.getLast ax,(List.dropLast_concat_getLast ax).symm,by rw[List.length_dropLast];omega⟩
     obtain⟨O,U⟩:∃q,q=(P++(H++x::(C++(B++S)))).toArray:=⟨_,rfl⟩;have bE:j<N:=by omega
     have bv:O.size=N:=by
      obtain⟨q1,q2,q3,q4⟩:=HJ.out;obtain⟨k1,k2,k3,k4,k5,k6,k7⟩:=HA.out;rw[U];rw[q1,List.length_append] at k6;simp;omega
     have gx:O[j]! =x:=by
      rw[U];have:=arr_at (P++H) (C++(B++S)) x j (by rw[List.length_append,HL.out.1,HJ.out.2.1];omega);simpa using this
     have gy:O[D]! =y:=by
      rw[U,HY.out.1];have:=arr_at (P++A2) (x::(C++(B++S))) y D (by rw[List.length_append,HL.out.1,HY.out.2];omega);simpa using this
     have gs:swp O j D=(P++(A2++x::((y::C)++(B++S)))).toArray:=by
      rw[U,HY.out.1];have:=swp_list' (P++A2) [] (C++(B++S)) y x D j (by rw[List.length_append,HL.out.1,HY.out.2];omega) (by rw[List.length_append,HL.out.1,HY.out.2];simp;omega);simpa using this
     have SJ:Aside (SW enc I blk h O wr):=by rw[U];exact HJ.out.2.2.2
     have GS:Aside (swp O j D=(P++(A2++x::((y::C)++(B++S)))).toArray):=gs;have aY:Aside (O=(P++(H++x::(C++(B++S)))).toArray):=U;have am:Aside (A=H++C/\∀c∈C,ltOf F x c=true):=⟨HJ.out.1,HJ.out.2.2.1⟩;clear gs U HJ;obtain⟨iN,ag⟩:∃q,q=j:=⟨_,rfl⟩;obtain⟨jN,Z⟩:∃q,q=D:=⟨_,rfl⟩;have ea:((D:Int)+1).toNat=iN:=by omega
     have pa:(0:Int)<=(D:Int)+1:=by omega
     have ba:(D:Int)+1<(N:Int):=by omega
     have ra:IntKind.i64.wrap ((D:Int)+1)=(D:Int)+1:=by rw[IntKind.wrap_i64];omega
     have ec:((D:Int)).toNat=jN:=by omega
     have pc:(0:Int)<=(D:Int):=by omega
     have bc:(D:Int)<(N:Int):=by omega
     have rc:IntKind.i64.wrap ((D:Int))=(D:Int):=by rw[IntKind.wrap_i64];omega
     have la:=SJ.out.cl R (by omega) j (by omega);have lb:=SJ.out.cl R (by omega) D (by omega);rw[gx,<-ag] at la;rw[gy,<-Z] at lb;have hc:=SJ.out.cmp HC.out (by omega) x y
     cases hlv:ltOf F x y with
     |true=>
      have hv:F x y<0:=of_decide_eq_true hlv;have hd:decide (F x y<0)=true:=decide_eq_true hv;have ar:Aside (ltOf F x y=true):=hlv;have K:Aside (iN=j/\jN=D/\O[j]! =x/\O[D]! =y):=⟨ag,Z,gx,gy⟩;clear hlv ag Z gx gy;go_wp2_with fail
      go_quiet_grown (first|(go_at_fn g;refine Calls.grown_of (hc _ _)))
      have J:Aside (SW enc I blk h O (grow (wr.drewN nq) osq)):=SJ.out.grown nq osq;clear la lb hc SJ;generalize grow (wr.drewN nq) osq=w2 at J⊢;clear nq osq;go_wp2_with fail;have S3:Aside (SW enc I blk h (swp O j D) ((w2.setCell ⟨blk,h+iN,none⟩ (enc y)).setCell ⟨blk,h+jN,none⟩ (enc x)).drew):=by
       obtain⟨z1,z2,z3,z4⟩:=K.out;have:=J.out.swapped R j D (by omega) (by omega);rw[z3,z4] at this;rw[z1,z2];exact this
      have ca:w2.cell? ⟨blk,h+iN,none⟩=some (enc x):=by have:=J.out.c1 R (by omega) j (by omega);rw[K.out.2.2.1,<-K.out.1] at this;exact this
      have cb':w2.cell? ⟨blk,h+jN,none⟩=some (enc y):=by have:=J.out.c1 R (by omega) D (by omega);rw[K.out.2.2.2,<-K.out.2.1] at this;exact this
      have fa:w2.frozen? ⟨blk,h+iN,none⟩=false:=by have:=J.out.f1 R (by omega) j (by omega);rw[<-K.out.1] at this;exact this
      have fb:w2.frozen? ⟨blk,h+jN,none⟩=false:=by have:=J.out.f1 R (by omega) D (by omega);rw[<-K.out.2.1] at this;exact this
      obtain⟨u,cc⟩:∃u,(w2.setCell ⟨blk,h+iN,none⟩ (enc y)).cell? ⟨blk,h+jN,none⟩=some u:=by have:=J.out.c2 R (by omega) j D (by omega) (by omega) (enc y);rw[<-K.out.1,<-K.out.2.1] at this;exact this
      clear J;go_wp2_with fail
      go_big_region_o
      clear ca cb' cc fa fb;generalize ((w2.setCell ⟨blk,h+iN,none⟩ (enc y)).setCell ⟨blk,h+jN,none⟩ (enc x)).drew=w3 at S3⊢;clear ea ec;go_wp2
      go_roundg (j-1)
      case measure=>omega
      case rel=>exact⟨j-1,A2,y::C,by first|rfl|go_num|(congr 1;omega),by omega,by omega,Nat.le_refl _,by rw[am.out.1,HY.out.1];simp,by rw[HY.out.2];omega,fun c hc=>(by rcases List.mem_cons.1 hc with rfl|hc;exact ar.out;exact am.out.2 c hc),by have:=S3.out;rw[GS.out] at this;exact this⟩
     |false=>
      have hv:¬F x y<0:=of_decide_eq_false hlv;have hd:decide (F x y<0)=false:=decide_eq_false hv;have ar:Aside (ltOf F x y=false):=hlv;clear hlv ag Z gx gy;go_wp2_with fail
      go_quiet_grown (first|(go_at_fn g;refine Calls.grown_of (hc _ _)))
      have J:Aside (SW enc I blk h O (grow (wr.drewN nq) osq)):=SJ.out.grown nq osq;clear la lb hc SJ;generalize grow (wr.drewN nq) osq=w2 at J⊢;clear nq osq ea ec;go_wp2
      go_roundg (b-(i+1))
      case measure=>omega
      case rel=>
       refine⟨i+1,by go_num,by omega,by omega,by omega,az.out _ ?_ (by have:=J.out;rw[aY.out] at this;exact this)⟩;intro z hz;have aX:Sorted (ltOf F) (A2++[y]):=by
        have:=HA.out.1;rw[am.out.1,HY.out.1] at this;exact(Sorted.app.1 this).1
       rw[HY.out.1] at hz;exact ah.out.ntrans _ _ _ ar.out (sorted_last ah.out aX z hz)
    ·have aJ:decide ((j:Int)>(a:Int))=false:=decide_eq_false (by omega);have hjaz':¬(a:Int)<(j:Int):=by omega
     go_wp2_with fail
     go_big_region_o
     have J:Aside (SW enc I blk h (P++(H++x::(C++(B++S)))).toArray wr.drew):=HJ.out.2.2.2.drew;have aO:Aside (H=[]):=List.length_eq_zero_iff.1 (by rw[HJ.out.2.1];omega);clear HJ;generalize wr.drew=w2 at J⊢;go_wp2
     go_roundg (b-(i+1))
     case measure=>omega
     case rel=>exact⟨i+1,by go_num,by omega,by omega,by omega,az.out _ (by rw[aO.out];intro y hy;simp at hy) J.out⟩
  ·have aH:¬(i:Int)<(b:Int):=by omega
   go_wp2
   go_end0
   obtain⟨A,h1,h2,h3⟩:=H1.out;obtain⟨k1,k2,k3⟩:=HL.out;rw[List.drop_eq_nil_of_le (by omega)] at h3;rw[List.take_of_length_le (by omega)] at h2;exact⟨rfl,A,h1,h2,by simpa using h3⟩
end Stb
end Go.Proofs.YtjlgejennghhlaaGreatDoor
namespace Go.Proofs.YtjlgejennghhlaaGreatDoor
namespace Stb
open Go.Shelf Go.RowKit Go.Lib Go.Sort
variable {α:Type} [Inhabited α]
theorem sym_gt (enc:α->Value) (I:α->α->Int) (g:Nat) (cb:Array Value) (blk F aE a m b N:Nat) (P L R' S:List α) (d0:Array α) (J w:World) (eg:∀args w,(callFunc g args).run Tryz.prog w=.ok (.enter g args) w) (aP:CmpLays1 Tryz.prog g cb enc I blk F d0.size J) (ho:Ord (ltOf I)) (R:Row1 enc J blk F d0) (hN:d0.size=N) (bw:N<4611686018427387904) (ao:(P++(L++(R'++S))).length=N) (ha:P.length=a) (hm:m=a+L.length) (hb:b=m+R'.length) (h2:2<=L.length) (h3:2<=R'.length) (sL:Sorted (ltOf I) L) (sR:Sorted (ltOf I) R') (mid:Nat) (aL:mid=(a+b)/2) (aj:mid<m)
 (IH:∀(a' m' b':Nat) (P' L' Q' S':List α) (W:World),P'.length=a'->m'=a'+L'.length->b'=m'+Q'.length->0<L'.length->0<Q'.length->L'.length+Q'.length<L.length+R'.length->(P'++(L'++(Q'++S'))).length=N->Sorted (ltOf I) L'->Sorted (ltOf I) Q'->SW enc J blk F (P'++(L'++(Q'++S'))).toArray W->Calls Tryz.prog 202 #[.slice (some ⟨blk,F,none⟩) N aE,.int .i64 a',.int .i64 m',.int .i64 b',.func (.func g) #[] cb] W fun e w'=>e=.returned (.tuple #[])/\∃M,Sorted (ltOf I) M/\Same (ltOf I) (L'++Q') M/\SW enc J blk F (P'++(M++S')).toArray w')
 (S0:SW enc J blk F (P++(L++(R'++S))).toArray w):
 Calls Tryz.prog 202 #[.slice (some ⟨blk,F,none⟩) N aE,.int .i64 a,.int .i64 m,.int .i64 b,.func (.func g) #[] cb] w fun e w'=>e=.returned (.tuple #[])/\∃M,Sorted (ltOf I) M/\Same (ltOf I) (L++R') M/\SW enc J blk F (P++(M++S)).toArray w':=by
 have bY:Tryz.prog.follows .mixedOrders=true:=by kernel_rfl
 have br:=R.hO.cells;simp only[Value.cells] at br;have cn:=R.hO.store Tryz.prog;have HC:Aside _:=aP;have aS:Aside (Ord (ltOf I)):=ho;have be:Aside _:=IH;have bG:Aside (∀(a' m' b':Nat) (P' X Y S':List α) (W:World),(P'++(X++(Y++S'))).length=N->P'.length=a'->X.length+a'=m'->Y.length+m'=b'->0<X.length->0<Y.length->SW enc J blk F (P'++(X++(Y++S'))).toArray W->Calls Tryz.prog 213 #[.slice (some ⟨blk,F,none⟩) N aE,.int .i64 a',.int .i64 m',.int .i64 b',.func (.func g) #[] cb] W fun e w'=>e=.returned (.tuple #[])/\SW enc J blk F (P'++(Y++(X++S'))).toArray w'):=
  fun a' m' b' P' X Y S' W h1 h2 h3 h4 h5 h6 h7=>rotate_any enc _ blk F aE a' m' b' N P' X Y S' d0 J W R hN h1 h2 h3 h4 h5 h6 bw h7
 obtain⟨l,hl⟩:∃q,q=P++(L++(R'++S)):=⟨_,rfl⟩;have cy:l.toArray.size=N:=by rw[hl];simpa using ao
 have HG:Aside (∀k,k<N->l[k]? =some (l.toArray[k]!)):=fun k hk=>arr_get l k (by simpa using (show k<l.toArray.size by omega))
 have cu:b<=N:=by
  have:P.length+(L.length+(R'.length+S.length))=N:=by simpa [Nat.add_comm,Nat.add_left_comm,Nat.add_assoc] using ao
  omega
 have cm:a+2<=m:=by omega
 have cD:m+2<=b:=by omega
 have e1:¬((m:Int)-(a:Int)=1):=by omega
 have e2:¬((b:Int)-(m:Int)=1):=by omega
 have cq:((m:Int)-(a:Int)==1)=false:=by simp[e1]
 have cv:((b:Int)-(m:Int)==1)=false:=by simp[e2]
 have cB:2*mid<=a+b:=by omega
 have cp:a+b<=2*mid+1:=by omega
 have em:((a:Int)+(b:Int))/2=(mid:Int):=by omega
 obtain⟨pp,cz⟩:∃q,q+1=mid+m:=⟨mid+m-1,by omega⟩;have ep:(mid:Int)+(m:Int)-1=(pp:Int):=by omega
 have cE:((a:Int)+(b:Int))/2<(m:Int):=by omega
 have hmz':(mid:Int)<(m:Int):=by omega
 obtain⟨lo,ck⟩:∃q,q+b=mid+m:=⟨mid+m-b,by omega⟩;have HS:Aside (SW enc J blk F l.toArray w):=by rw[hl];exact S0
 have HL:Aside (l=P++(L++(R'++S))/\P.length=a/\m=a+L.length/\b=m+R'.length/\(P++(L++(R'++S))).length=N/\Sorted (ltOf I) L/\Sorted (ltOf I) R'/\mid=(a+b)/2):=⟨hl,ha,hm,hb,ao,sL,sR,aL⟩;clear S0 aP ho hl ha hm hb ao sL sR h2 h3 IH aL;go_enter Tryz.func202,Tryz.ntmps202;go_wp2
 try simp only[em,ep]
 go_loopg [20,21] (b-a) (fun g1 vs vr wr=>∃D r:Nat,vs=.int .i64 D/\vr=.int .i64 r/\lo<=D/\D<=r/\r<=mid/\r-D<=g1/\Aside (SW enc J blk F l.toArray wr/\(D=lo\/∀x y,l[D-1]? =some x->l[mid+m-D]? =some y->ltOf I y x=false)/\(r=mid\/∀x y,l[r]? =some x->l[mid+m-1-r]? =some y->ltOf I y x=true)))
 case atStart=>exact⟨lo,mid,by first|rfl|go_num|(congr 1;omega),by first|rfl|go_num|(congr 1;omega),Nat.le_refl _,by omega,Nat.le_refl _,by omega,⟨HS.out,Or.inl rfl,Or.inl rfl⟩⟩
 case round=>
  clear HS;obtain⟨D,r,rfl,rfl,bR,co,bA,hg,H⟩:=hrel
  by_cases hlt:D<r
  ·as_aux_lemma=>
    have bp:(D:Int)<(r:Int):=by omega
    obtain⟨c,hh⟩:∃q,q=(D+r)/2:=⟨_,rfl⟩;have bT:D<=c:=by omega
    have cA:c<r:=by omega
    have bg:((D:Int)+(r:Int))/2=(c:Int):=by omega
    obtain⟨pq,hq⟩:∃q,q+(c+1)=mid+m:=⟨mid+m-(c+1),by omega⟩;have cF:(pp:Int)-(c:Int)=(pq:Int):=by omega
    have ch:IntKind.i64.wrap ((pp:Int)-(c:Int))=(pq:Int):=by rw[IntKind.wrap_i64];omega
    obtain⟨x,gy⟩:∃y,l.toArray[c]! =y:=⟨_,rfl⟩;obtain⟨y,gx⟩:∃y,l.toArray[pq]! =y:=⟨_,rfl⟩;have GC:Aside (l[c]? =some x):=by have:=HG.out c (by omega);rw[gy] at this;exact this
    have GQ:Aside (l[pq]? =some y):=by have:=HG.out pq (by omega);rw[gx] at this;exact this
    have SJ:Aside (SW enc J blk F l.toArray wr):=H.out.1;have mid':Aside ((D=lo\/∀x y,l[D-1]? =some x->l[mid+m-D]? =some y->ltOf I y x=false)/\(r=mid\/∀x y,l[r]? =some x->l[mid+m-1-r]? =some y->ltOf I y x=true)):=H.out.2;clear H hh;obtain⟨iN,bh⟩:∃q,q=pq:=⟨_,rfl⟩;obtain⟨jN,bj⟩:∃q,q=c:=⟨_,rfl⟩;have ea:((pq:Int)).toNat=iN:=by omega
    have pa:(0:Int)<=(pq:Int):=by omega
    have ba:(pq:Int)<(N:Int):=by omega
    have ra:IntKind.i64.wrap ((pq:Int))=(pq:Int):=by rw[IntKind.wrap_i64];omega
    have ec:((c:Int)).toNat=jN:=by omega
    have pc:(0:Int)<=(c:Int):=by omega
    have bc:(c:Int)<(N:Int):=by omega
    have rc:IntKind.i64.wrap ((c:Int))=(c:Int):=by rw[IntKind.wrap_i64];omega
    have la:=SJ.out.cl R (by omega) pq (by omega);have lb:=SJ.out.cl R (by omega) c (by omega);rw[gx,<-bh] at la;rw[gy,<-bj] at lb;have hc:=SJ.out.cmp HC.out (by omega) y x;clear bh bj
    cases hlv:ltOf I y x with
    |true=>
     have hv:I y x<0:=of_decide_eq_true hlv;have hd:decide (I y x<0)=true:=decide_eq_true hv;have aN:Aside (ltOf I y x=true):=hlv;clear hlv;go_wp2_with fail
     try simp only[em,ep,bg]
     go_quiet_grown (first|(go_at_fn g;refine Calls.grown_of (hc _ _)))
     have S2:Aside (SW enc J blk F l.toArray (grow (wr.drewN nq) osq)):=SJ.out.grown nq osq;clear la lb hc SJ;generalize grow (wr.drewN nq) osq=w2 at S2⊢;clear nq osq;clear ea ec;go_wp2
     go_roundg (c-D)
     case measure=>omega
     case rel=>exact⟨D,c,rfl,by first|rfl|go_num|(congr 1;omega),bR,bT,by omega,Nat.le_refl _,⟨S2.out,mid'.out.1,Or.inr (fun x' y' hx hy=>by rw[GC.out] at hx;rw[show mid+m-1-c=pq by omega,GQ.out] at hy;cases hx;cases hy;exact aN.out)⟩⟩
    |false=>
     have hv:¬I y x<0:=of_decide_eq_false hlv;have hd:decide (I y x<0)=false:=decide_eq_false hv;have aN:Aside (ltOf I y x=false):=hlv;clear hlv;go_wp2_with fail
     try simp only[em,ep,bg]
     go_quiet_grown (first|(go_at_fn g;refine Calls.grown_of (hc _ _)))
     have S2:Aside (SW enc J blk F l.toArray (grow (wr.drewN nq) osq)):=SJ.out.grown nq osq;clear la lb hc SJ;generalize grow (wr.drewN nq) osq=w2 at S2⊢;clear nq osq;clear ea ec;go_wp2
     go_roundg (r-(c+1))
     case measure=>omega
     case rel=>exact⟨c+1,r,by first|go_num|(congr 1;omega),rfl,by omega,by omega,bA,Nat.le_refl _,⟨S2.out,Or.inr (fun x' y' hx hy=>by rw[Nat.add_sub_cancel,GC.out] at hx;rw[show mid+m-(c+1)=pq by omega,GQ.out] at hy;cases hx;cases hy;exact aN.out),mid'.out.2⟩⟩
  ·have hij':D=r:=by omega
   subst hij';have bp:¬(D:Int)<(D:Int):=by omega
   have cx:a<=D:=by omega
   have cj:D<=m:=by omega
   have cr:D<=mid:=by omega
   obtain⟨en,cC⟩:∃q,q+D=mid+m:=⟨mid+m-D,by omega⟩;have ci:m<=en:=by omega
   have ct:en<=b:=by omega
   have cw:mid<=en:=by omega
   have aX:(mid:Int)+(m:Int)-(D:Int)=(en:Int):=by omega
   obtain⟨L1,U,R1,Z,K⟩:∃L1 U R1 Z,Aside (L=L1++U/\R'=R1++Z/\L1.length=D-a/\R1.length=mid-D/\(∀x∈U,∀y∈R1,ltOf I y x=true)/\∀x∈L1,∀y∈Z,ltOf I y x=false):=by
    obtain⟨k1,k2,k3,k4,k5,k6,k7,k8⟩:=HL.out;obtain⟨q1,q2,q3⟩:=H.out;rw[k1] at q2 q3;refine sym_find (P:=P) (L:=L) (R:=R') (S:=S) (a:=a) (m:=m) (b:=b) (mid:=mid) (start:=D) aS.out k2 (by omega) (by omega) (by omega) (by omega) k8 k6 k7 ?_ ?_ ?_ ?_
    ·rw[if_pos aj];omega
    ·rw[if_pos aj];omega
    ·rw[if_pos aj];exact q2.imp (fun h=>by omega) id
    ·rw[if_pos aj];exact q3.imp (fun h=>by omega) id
   have O:Aside (U.length=m-D/\Z.length=b-en/\(P++(L1++(U++(R1++(Z++S))))).length=N/\P.length+(L1.length+(U.length+(R1.length+(Z.length+S.length))))=N):=by
    obtain⟨k1,k2,k3,k4,k5,k6,k7,k8⟩:=HL.out;obtain⟨r1,r2,r3,r4,r5,r6⟩:=K.out;rw[r1,List.length_append] at k3;rw[r2,List.length_append] at k4;rw[r1,r2] at k5;exact⟨by omega,by omega,by simpa using k5,by simpa [Nat.add_assoc] using k5⟩
   have sj:SW enc J blk F (P++(L1++(U++(R1++(Z++S))))).toArray wr:=by have:=H.out.1;rw[HL.out.1,K.out.1,K.out.2.1] at this;simpa using this
   have SJ:Aside (SW enc J blk F (P++(L1++(U++(R1++(Z++S))))).toArray wr):=sj;clear sj;clear H;obtain⟨bt,bd⟩:∃q:Bool,q=decide (D<m/\m<en):=⟨_,rfl⟩;have am:Aside (bt=decide (D<m/\m<en)):=bd;clear bd
   go_upto_region 39 with fail
   go_cut [185] (fun v wx=>v=.bool bt/\wx=wr)
   case first=>
    as_aux_lemma=>
     by_cases hz1:D<m
     ·have z1:(D:Int)<(m:Int):=by omega
      by_cases hz2:m<en
      ·have z2:(m:Int)<(en:Int):=by omega
       have aT:(m:Int)<(mid:Int)+(m:Int)-(D:Int):=by omega
       have hb':bt=true:=by rw[am.out];exact decide_eq_true ⟨hz1,hz2⟩
       subst hb';go_wp2;go_meet;exact⟨rfl,rfl⟩
      ·have z2:¬(m:Int)<(en:Int):=by omega
       have aT:¬(m:Int)<(mid:Int)+(m:Int)-(D:Int):=by omega
       have hb':bt=false:=by rw[am.out];exact decide_eq_false (fun h=>hz2 h.2)
       subst hb';go_wp2;go_meet;exact⟨rfl,rfl⟩
     ·have z1:¬(D:Int)<(m:Int):=by omega
      have hb':bt=false:=by rw[am.out];exact decide_eq_false (fun h=>hz1 h.1)
      subst hb';go_wp2;go_meet;exact⟨rfl,rfl⟩
   case rest=>
   obtain⟨rfl,rfl⟩:=hcut;go_upto_if 185 with fail
   go_cut [] (fun wx=>Aside (SW enc J blk F (P++(L1++(R1++(U++(Z++S))))).toArray wx))
   case first=>
    as_aux_lemma=>
     cases bt
     ·have hn:U=[]\/R1=[]:=by
       have h:=of_decide_eq_false am.out.symm
       by_cases h1:D<m
       ·exact Or.inr (List.length_eq_zero_iff.1 (by rw[K.out.2.2.2.1];have:¬m<en:=fun h2=>h ⟨h1,h2⟩;omega))
       ·exact Or.inl (List.length_eq_zero_iff.1 (by rw[O.out.1];omega))
      go_wp2;go_meet;have:=SJ.out
      show SW enc J blk F _ _
      rcases hn with hn|hn
      ·rw[hn] at this⊢;simpa using this
      ·rw[hn] at this⊢;simpa using this
     ·have hz:=of_decide_eq_true am.out.symm;go_wp2_with (go_at_call 213;fail)
      try simp only[em,aX]
      refine(bG.out D m en (P++L1) U R1 (Z++S) wc (by simpa using O.out.2.2.1) (by rw[List.length_append,HL.out.2.1,K.out.2.2.1];omega) (by rw[O.out.1];omega) (by rw[K.out.2.2.2.1];omega) (by rw[O.out.1];omega) (by rw[K.out.2.2.2.1];omega) (by simpa using SJ.out)).mono ?_;rintro e w2 ⟨rfl,hS⟩;have HF:Aside _:=hS;clear hS SJ;go_wp2;go_meet;have:=HF.out;simp only[List.append_assoc] at this;exact this
   case rest=>
    have SK:Aside (SW enc J blk F (P++(L1++(R1++(U++(Z++S))))).toArray wc):=hcut;clear hcut SJ;have ag:Aside (Sorted (ltOf I) L1/\Sorted (ltOf I) U/\Sorted (ltOf I) R1/\Sorted (ltOf I) Z):=by
     obtain⟨k1,k2,k3,k4,k5,k6,k7,k8⟩:=HL.out;rw[K.out.1] at k6;rw[K.out.2.1] at k7;exact⟨(Sorted.app.1 k6).1,(Sorted.app.1 k6).2.1,(Sorted.app.1 k7).1,(Sorted.app.1 k7).2.1⟩
    clear am;obtain⟨bu,bi⟩:∃q:Bool,q=decide (a<D/\D<mid):=⟨_,rfl⟩;have av:Aside (bu=decide (a<D/\D<mid)):=bi;clear bi;obtain⟨wk,bf⟩:∃q,q=wc:=⟨_,rfl⟩;rw[<-bf] at SK⊢;clear bf
    go_upto_region 41 with fail
    go_cut [199] (fun v wx=>v=.bool bu/\wx=wk)
    case first=>
     as_aux_lemma=>
      by_cases hz1:a<D
      ·have z1:(a:Int)<(D:Int):=by omega
       by_cases hz2:D<mid
       ·have z2:(D:Int)<(mid:Int):=by omega
        have hb':bu=true:=by rw[av.out];exact decide_eq_true ⟨hz1,hz2⟩
        subst hb';go_wp2;go_meet;exact⟨rfl,rfl⟩
       ·have z2:¬(D:Int)<(mid:Int):=by omega
        have hb':bu=false:=by rw[av.out];exact decide_eq_false (fun h=>hz2 h.2)
        subst hb';go_wp2;go_meet;exact⟨rfl,rfl⟩
      ·have z1:¬(a:Int)<(D:Int):=by omega
       have hb':bu=false:=by rw[av.out];exact decide_eq_false (fun h=>hz1 h.1)
       subst hb';go_wp2;go_meet;exact⟨rfl,rfl⟩
    case rest=>
    obtain⟨rfl,rfl⟩:=hcut;go_upto_if 199 with fail
    go_cut [] (fun wx=>Aside (∃M1,Sorted (ltOf I) M1/\Same (ltOf I) (L1++R1) M1/\SW enc J blk F (P++(M1++(U++(Z++S)))).toArray wx))
    case first=>
     as_aux_lemma=>
      cases bu
      ·have hn:L1=[]\/R1=[]:=by
        have h:=of_decide_eq_false av.out.symm
        by_cases h1:a<D
        ·exact Or.inr (List.length_eq_zero_iff.1 (by rw[K.out.2.2.2.1];have:¬D<mid:=fun h2=>h ⟨h1,h2⟩;omega))
        ·exact Or.inl (List.length_eq_zero_iff.1 (by rw[K.out.2.2.1];omega))
       go_wp2;go_meet;have:=SK.out;rcases hn with hn|hn
       ·exact⟨R1,ag.out.2.2.1,by rw[hn];simpa using Same.refl _ _,by rw[hn] at this;simpa using this⟩
       ·exact⟨L1,ag.out.1,by rw[hn];simpa using Same.refl _ _,by rw[hn] at this;simpa using this⟩
      ·have hz:=of_decide_eq_true av.out.symm;go_wp2_with (go_at_call 202;fail)
       try simp only[em,aX]
       refine(be.out a D mid P L1 R1 (U++(Z++S)) wc HL.out.2.1 (by rw[K.out.2.2.1];omega) (by rw[K.out.2.2.2.1];omega) (by rw[K.out.2.2.1];omega) (by rw[K.out.2.2.2.1];omega) ?_ ?_ ag.out.1 ag.out.2.2.1 SK.out).mono ?_
       ·have h1:=HL.out.2.2.1;have h2:=HL.out.2.2.2.1;rw[K.out.2.2.1,K.out.2.2.2.1];omega
       ·have:=O.out.2.2.2;simp only[List.length_append];omega
       rintro e w2 ⟨rfl,hS⟩;have HF:Aside _:=hS;clear hS SK;go_wp2;go_meet;exact HF
    case rest=>
     as_aux_lemma=>
      obtain⟨M1,HM⟩:∃M1,Aside (Sorted (ltOf I) M1/\Same (ltOf I) (L1++R1) M1/\M1.length=mid-a/\SW enc J blk F (P++(M1++(U++(Z++S)))).toArray wc):=by
       obtain⟨M1,q1,q2,q3⟩:=(show Aside _ from hcut).out
       exact⟨M1,q1,q2,by rw[<-q2.len aS.out,List.length_append,K.out.2.2.1,K.out.2.2.2.1];omega,q3⟩
      clear hcut SK;have aQ:Aside (∀(M2:List α) (V:World),Sorted (ltOf I) M2->Same (ltOf I) (U++Z) M2->SW enc J blk F (P++(M1++(M2++S))).toArray V->∃M,Sorted (ltOf I) M/\Same (ltOf I) (L++R') M/\SW enc J blk F (P++(M++S)).toArray V):=by
       intro M2 V h1 h2 h3;obtain⟨k1,k2,k3,k4,k5,k6,k7,k8⟩:=HL.out;obtain⟨r1,r2,r3,r4,r5,r6⟩:=K.out;obtain⟨m1,m2,m3,m4⟩:=HM.out;obtain⟨p1,p2⟩:=sym_cut aS.out (r1▸k6) (r2▸k7) r5 r6 m1 m2 h1 h2;exact⟨M1++M2,p1,by rw[r1,r2];exact p2,by simpa using h3⟩
      have SL:Aside (SW enc J blk F (P++(M1++(U++(Z++S)))).toArray wc):=HM.out.2.2.2
      by_cases hz1:mid<en
      ·have z1:(mid:Int)<(en:Int):=by omega
       have bK:(mid:Int)<(mid:Int)+(m:Int)-(D:Int):=by omega
       have bC:((a:Int)+(b:Int))/2<((a:Int)+(b:Int))/2+(m:Int)-(D:Int):=by omega
       by_cases hz2:en<b
       ·have z2:(en:Int)<(b:Int):=by omega
        have aT:(mid:Int)+(m:Int)-(D:Int)<(b:Int):=by omega
        have bX:((a:Int)+(b:Int))/2+(m:Int)-(D:Int)<(b:Int):=by omega
        go_wp2_with (go_at_call 202;fail)
        try simp only[em,aX]
        refine(be.out mid en b (P++M1) U Z S wc (by rw[List.length_append,HL.out.2.1,HM.out.2.2.1];omega) (by rw[O.out.1];omega) (by rw[O.out.2.1];omega) (by rw[O.out.1];omega) (by rw[O.out.2.1];omega) ?_ ?_ ag.out.2.1 ag.out.2.2.2 (by simpa using SL.out)).mono ?_
        ·have h1:=HL.out.2.2.1;have h2:=HL.out.2.2.2.1;rw[O.out.1,O.out.2.1];omega
        ·have:=O.out.2.2.2;have h3:=HM.out.2.2.1;have h4:=K.out.2.2.1;have h5:=K.out.2.2.2.1;simp only[List.length_append];omega
        rintro e w2 ⟨rfl,hS⟩;have HF:Aside _:=hS;clear hS SL;go_wp2
        go_end0
        obtain⟨M2,q1,q2,q3⟩:=HF.out;exact⟨rfl,aQ.out M2 _ q1 q2 (by simpa using q3)⟩
       ·have z2:¬(en:Int)<(b:Int):=by omega
        have aT:¬(mid:Int)+(m:Int)-(D:Int)<(b:Int):=by omega
        have bX:¬((a:Int)+(b:Int))/2+(m:Int)-(D:Int)<(b:Int):=by omega
        have hn:Z=[]:=List.length_eq_zero_iff.1 (by rw[O.out.2.1];omega);go_wp2
        go_end0
        exact⟨rfl,aQ.out U _ ag.out.2.1 (by rw[hn];simpa using Same.refl _ _) (by have:=SL.out;rw[hn] at this;simpa using this)⟩
      ·have z1:¬(mid:Int)<(en:Int):=by omega
       have bK:¬(mid:Int)<(mid:Int)+(m:Int)-(D:Int):=by omega
       have bC:¬((a:Int)+(b:Int))/2<((a:Int)+(b:Int))/2+(m:Int)-(D:Int):=by omega
       have hn:U=[]:=List.length_eq_zero_iff.1 (by rw[O.out.1];omega);go_wp2
       go_end0
       exact⟨rfl,aQ.out Z _ ag.out.2.2.2 (by rw[hn];simpa using Same.refl _ _) (by have:=SL.out;rw[hn] at this;simpa using this)⟩
end Stb
end Go.Proofs.YtjlgejennghhlaaGreatDoor
namespace Go.Proofs.YtjlgejennghhlaaGreatDoor
namespace Stb
open Go.Shelf Go.RowKit Go.Lib Go.Sort
variable {α:Type} [Inhabited α]
theorem sym_le (enc:α->Value) (I:α->α->Int) (g:Nat) (cb:Array Value) (blk F aE a m b N:Nat) (P L R' S:List α) (d0:Array α) (J w:World) (eg:∀args w,(callFunc g args).run Tryz.prog w=.ok (.enter g args) w) (aP:CmpLays1 Tryz.prog g cb enc I blk F d0.size J) (ho:Ord (ltOf I)) (R:Row1 enc J blk F d0) (hN:d0.size=N) (bv:N<4611686018427387904) (ap:(P++(L++(R'++S))).length=N) (ha:P.length=a) (hm:m=a+L.length) (hb:b=m+R'.length) (h2:2<=L.length) (h3:2<=R'.length) (sL:Sorted (ltOf I) L) (sR:Sorted (ltOf I) R') (mid:Nat) (aL:mid=(a+b)/2) (ak:¬mid<m)
 (IH:∀(a' m' b':Nat) (P' L' Q' S':List α) (W:World),P'.length=a'->m'=a'+L'.length->b'=m'+Q'.length->0<L'.length->0<Q'.length->L'.length+Q'.length<L.length+R'.length->(P'++(L'++(Q'++S'))).length=N->Sorted (ltOf I) L'->Sorted (ltOf I) Q'->SW enc J blk F (P'++(L'++(Q'++S'))).toArray W->Calls Tryz.prog 202 #[.slice (some ⟨blk,F,none⟩) N aE,.int .i64 a',.int .i64 m',.int .i64 b',.func (.func g) #[] cb] W fun e w'=>e=.returned (.tuple #[])/\∃M,Sorted (ltOf I) M/\Same (ltOf I) (L'++Q') M/\SW enc J blk F (P'++(M++S')).toArray w')
 (S0:SW enc J blk F (P++(L++(R'++S))).toArray w):
 Calls Tryz.prog 202 #[.slice (some ⟨blk,F,none⟩) N aE,.int .i64 a,.int .i64 m,.int .i64 b,.func (.func g) #[] cb] w fun e w'=>e=.returned (.tuple #[])/\∃M,Sorted (ltOf I) M/\Same (ltOf I) (L++R') M/\SW enc J blk F (P++(M++S)).toArray w':=by
 have bX:Tryz.prog.follows .mixedOrders=true:=by kernel_rfl
 have bq:=R.hO.cells;simp only[Value.cells] at bq;have ck:=R.hO.store Tryz.prog;have HC:Aside _:=aP;have aS:Aside (Ord (ltOf I)):=ho;have bd:Aside _:=IH;have bF:Aside (∀(a' m' b':Nat) (P' X Y S':List α) (W:World),(P'++(X++(Y++S'))).length=N->P'.length=a'->X.length+a'=m'->Y.length+m'=b'->0<X.length->0<Y.length->SW enc J blk F (P'++(X++(Y++S'))).toArray W->Calls Tryz.prog 213 #[.slice (some ⟨blk,F,none⟩) N aE,.int .i64 a',.int .i64 m',.int .i64 b',.func (.func g) #[] cb] W fun e w'=>e=.returned (.tuple #[])/\SW enc J blk F (P'++(Y++(X++S'))).toArray w'):=
  fun a' m' b' P' X Y S' W h1 h2 h3 h4 h5 h6 h7=>rotate_any enc _ blk F aE a' m' b' N P' X Y S' d0 J W R hN h1 h2 h3 h4 h5 h6 bv h7
 obtain⟨l,hl⟩:∃q,q=P++(L++(R'++S)):=⟨_,rfl⟩;have cw:l.toArray.size=N:=by rw[hl];simpa using ap
 have HG:Aside (∀k,k<N->l[k]? =some (l.toArray[k]!)):=fun k hk=>arr_get l k (by simpa using (show k<l.toArray.size by omega))
 have cr:b<=N:=by
  have:P.length+(L.length+(R'.length+S.length))=N:=by simpa [Nat.add_comm,Nat.add_left_comm,Nat.add_assoc] using ap
  omega
 have cj:a+2<=m:=by omega
 have cB:m+2<=b:=by omega
 have e1:¬((m:Int)-(a:Int)=1):=by omega
 have e2:¬((b:Int)-(m:Int)=1):=by omega
 have co:((m:Int)-(a:Int)==1)=false:=by simp[e1]
 have ct:((b:Int)-(m:Int)==1)=false:=by simp[e2]
 have cz:2*mid<=a+b:=by omega
 have cn:a+b<=2*mid+1:=by omega
 have em:((a:Int)+(b:Int))/2=(mid:Int):=by omega
 obtain⟨pp,cx⟩:∃q,q+1=mid+m:=⟨mid+m-1,by omega⟩;have ep:(mid:Int)+(m:Int)-1=(pp:Int):=by omega
 have cC:¬(((a:Int)+(b:Int))/2<(m:Int)):=by omega
 have hmz':¬((mid:Int)<(m:Int)):=by omega
 have HS:Aside (SW enc J blk F l.toArray w):=by rw[hl];exact S0
 have HL:Aside (l=P++(L++(R'++S))/\P.length=a/\m=a+L.length/\b=m+R'.length/\(P++(L++(R'++S))).length=N/\Sorted (ltOf I) L/\Sorted (ltOf I) R'/\mid=(a+b)/2):=⟨hl,ha,hm,hb,ap,sL,sR,aL⟩;clear S0 aP ho hl ha hm hb ap sL sR h2 h3 IH aL;go_enter Tryz.func202,Tryz.ntmps202;go_wp2
 try simp only[em,ep]
 go_loopg [20,21] (b-a) (fun g1 vs vr wr=>∃D r:Nat,vs=.int .i64 D/\vr=.int .i64 r/\a<=D/\D<=r/\r<=m/\r-D<=g1/\Aside (SW enc J blk F l.toArray wr/\(D=a\/∀x y,l[D-1]? =some x->l[mid+m-D]? =some y->ltOf I y x=false)/\(r=m\/∀x y,l[r]? =some x->l[mid+m-1-r]? =some y->ltOf I y x=true)))
 case atStart=>exact⟨a,m,by first|rfl|go_num|(congr 1;omega),by first|rfl|go_num|(congr 1;omega),Nat.le_refl _,by omega,Nat.le_refl _,by omega,⟨HS.out,Or.inl rfl,Or.inl rfl⟩⟩
 case round=>
  clear HS;obtain⟨D,r,rfl,rfl,bQ,cm,bz,hg,H⟩:=hrel
  by_cases hlt:D<r
  ·as_aux_lemma=>
    have bo:(D:Int)<(r:Int):=by omega
    obtain⟨c,hh⟩:∃q,q=(D+r)/2:=⟨_,rfl⟩;have bS:D<=c:=by omega
    have cy:c<r:=by omega
    have bf:((D:Int)+(r:Int))/2=(c:Int):=by omega
    obtain⟨pq,hq⟩:∃q,q+(c+1)=mid+m:=⟨mid+m-(c+1),by omega⟩;have cD:(pp:Int)-(c:Int)=(pq:Int):=by omega
    have cg:IntKind.i64.wrap ((pp:Int)-(c:Int))=(pq:Int):=by rw[IntKind.wrap_i64];omega
    obtain⟨x,gy⟩:∃y,l.toArray[c]! =y:=⟨_,rfl⟩;obtain⟨y,gx⟩:∃y,l.toArray[pq]! =y:=⟨_,rfl⟩;have GC:Aside (l[c]? =some x):=by have:=HG.out c (by omega);rw[gy] at this;exact this
    have GQ:Aside (l[pq]? =some y):=by have:=HG.out pq (by omega);rw[gx] at this;exact this
    have SJ:Aside (SW enc J blk F l.toArray wr):=H.out.1;have m':Aside ((D=a\/∀x y,l[D-1]? =some x->l[mid+m-D]? =some y->ltOf I y x=false)/\(r=m\/∀x y,l[r]? =some x->l[mid+m-1-r]? =some y->ltOf I y x=true)):=H.out.2;clear H hh;obtain⟨iN,bg⟩:∃q,q=pq:=⟨_,rfl⟩;obtain⟨jN,bi⟩:∃q,q=c:=⟨_,rfl⟩;have ea:((pq:Int)).toNat=iN:=by omega
    have pa:(0:Int)<=(pq:Int):=by omega
    have ba:(pq:Int)<(N:Int):=by omega
    have ra:IntKind.i64.wrap ((pq:Int))=(pq:Int):=by rw[IntKind.wrap_i64];omega
    have ec:((c:Int)).toNat=jN:=by omega
    have pc:(0:Int)<=(c:Int):=by omega
    have bc:(c:Int)<(N:Int):=by omega
    have rc:IntKind.i64.wrap ((c:Int))=(c:Int):=by rw[IntKind.wrap_i64];omega
    have la:=SJ.out.cl R (by omega) pq (by omega);have lb:=SJ.out.cl R (by omega) c (by omega);rw[gx,<-bg] at la;rw[gy,<-bi] at lb;have hc:=SJ.out.cmp HC.out (by omega) y x;clear bg bi
    cases hlv:ltOf I y x with
    |true=>
     have hv:I y x<0:=of_decide_eq_true hlv;have hd:decide (I y x<0)=true:=decide_eq_true hv;have aN:Aside (ltOf I y x=true):=hlv;clear hlv;go_wp2_with fail
     try simp only[em,ep,bf]
     go_quiet_grown (first|(go_at_fn g;refine Calls.grown_of (hc _ _)))
     have S2:Aside (SW enc J blk F l.toArray (grow (wr.drewN nq) osq)):=SJ.out.grown nq osq;clear la lb hc SJ;generalize grow (wr.drewN nq) osq=w2 at S2⊢;clear nq osq;clear ea ec;go_wp2
     go_roundg (c-D)
     case measure=>omega
     case rel=>exact⟨D,c,rfl,by first|rfl|go_num|(congr 1;omega),bQ,bS,by omega,Nat.le_refl _,⟨S2.out,m'.out.1,Or.inr (fun x' y' hx hy=>by rw[GC.out] at hx;rw[show mid+m-1-c=pq by omega,GQ.out] at hy;cases hx;cases hy;exact aN.out)⟩⟩
    |false=>
     have hv:¬I y x<0:=of_decide_eq_false hlv;have hd:decide (I y x<0)=false:=decide_eq_false hv;have aN:Aside (ltOf I y x=false):=hlv;clear hlv;go_wp2_with fail
     try simp only[em,ep,bf]
     go_quiet_grown (first|(go_at_fn g;refine Calls.grown_of (hc _ _)))
     have S2:Aside (SW enc J blk F l.toArray (grow (wr.drewN nq) osq)):=SJ.out.grown nq osq;clear la lb hc SJ;generalize grow (wr.drewN nq) osq=w2 at S2⊢;clear nq osq;clear ea ec;go_wp2
     go_roundg (r-(c+1))
     case measure=>omega
     case rel=>exact⟨c+1,r,by first|go_num|(congr 1;omega),rfl,by omega,by omega,bz,Nat.le_refl _,⟨S2.out,Or.inr (fun x' y' hx hy=>by rw[Nat.add_sub_cancel,GC.out] at hx;rw[show mid+m-(c+1)=pq by omega,GQ.out] at hy;cases hx;cases hy;exact aN.out),m'.out.2⟩⟩
  ·have hij':D=r:=by omega
   subst hij';have bo:¬(D:Int)<(D:Int):=by omega
   have cv:a<=D:=by omega
   have ci:D<=m:=by omega
   have cp:D<=mid:=by omega
   obtain⟨en,cA⟩:∃q,q+D=mid+m:=⟨mid+m-D,by omega⟩;have ch:m<=en:=by omega
   have cq:en<=b:=by omega
   have cu:mid<=en:=by omega
   have aX:(mid:Int)+(m:Int)-(D:Int)=(en:Int):=by omega
   obtain⟨L1,U,R1,Z,K⟩:∃L1 U R1 Z,Aside (L=L1++U/\R'=R1++Z/\L1.length=D-a/\R1.length=mid-D/\(∀x∈U,∀y∈R1,ltOf I y x=true)/\∀x∈L1,∀y∈Z,ltOf I y x=false):=by
    obtain⟨k1,k2,k3,k4,k5,k6,k7,k8⟩:=HL.out;obtain⟨q1,q2,q3⟩:=H.out;rw[k1] at q2 q3;refine sym_find (P:=P) (L:=L) (R:=R') (S:=S) (a:=a) (m:=m) (b:=b) (mid:=mid) (start:=D) aS.out k2 (by omega) (by omega) (by omega) (by omega) k8 k6 k7 ?_ ?_ ?_ ?_
    ·rw[if_neg ak];omega
    ·rw[if_neg ak];omega
    ·rw[if_neg ak];exact q2.imp (fun h=>by omega) id
    ·rw[if_neg ak];exact q3.imp (fun h=>by omega) id
   have O:Aside (U.length=m-D/\Z.length=b-en/\(P++(L1++(U++(R1++(Z++S))))).length=N/\P.length+(L1.length+(U.length+(R1.length+(Z.length+S.length))))=N):=by
    obtain⟨k1,k2,k3,k4,k5,k6,k7,k8⟩:=HL.out;obtain⟨r1,r2,r3,r4,r5,r6⟩:=K.out;rw[r1,List.length_append] at k3;rw[r2,List.length_append] at k4;rw[r1,r2] at k5;exact⟨by omega,by omega,by simpa using k5,by simpa [Nat.add_assoc] using k5⟩
   have sj:SW enc J blk F (P++(L1++(U++(R1++(Z++S))))).toArray wr:=by have:=H.out.1;rw[HL.out.1,K.out.1,K.out.2.1] at this;simpa using this
   have SJ:Aside (SW enc J blk F (P++(L1++(U++(R1++(Z++S))))).toArray wr):=sj;clear sj;clear H;obtain⟨bt,bb⟩:∃q:Bool,q=decide (D<m/\m<en):=⟨_,rfl⟩;have ao:Aside (bt=decide (D<m/\m<en)):=bb;clear bb
   go_upto_region 39 with fail
   go_cut [185] (fun v wx=>v=.bool bt/\wx=wr)
   case first=>
    as_aux_lemma=>
     by_cases hz1:D<m
     ·have z1:(D:Int)<(m:Int):=by omega
      by_cases hz2:m<en
      ·have z2:(m:Int)<(en:Int):=by omega
       have aT:(m:Int)<(mid:Int)+(m:Int)-(D:Int):=by omega
       have hb':bt=true:=by rw[ao.out];exact decide_eq_true ⟨hz1,hz2⟩
       subst hb';go_wp2;go_meet;exact⟨rfl,rfl⟩
      ·have z2:¬(m:Int)<(en:Int):=by omega
       have aT:¬(m:Int)<(mid:Int)+(m:Int)-(D:Int):=by omega
       have hb':bt=false:=by rw[ao.out];exact decide_eq_false (fun h=>hz2 h.2)
       subst hb';go_wp2;go_meet;exact⟨rfl,rfl⟩
     ·have z1:¬(D:Int)<(m:Int):=by omega
      have hb':bt=false:=by rw[ao.out];exact decide_eq_false (fun h=>hz1 h.1)
      subst hb';go_wp2;go_meet;exact⟨rfl,rfl⟩
   case rest=>
   obtain⟨rfl,rfl⟩:=hcut;go_upto_if 185 with fail
   go_cut [] (fun wx=>Aside (SW enc J blk F (P++(L1++(R1++(U++(Z++S))))).toArray wx))
   case first=>
    as_aux_lemma=>
     cases bt
     ·have hn:U=[]\/R1=[]:=by
       have h:=of_decide_eq_false ao.out.symm
       by_cases h1:D<m
       ·exact Or.inr (List.length_eq_zero_iff.1 (by rw[K.out.2.2.2.1];have:¬m<en:=fun h2=>h ⟨h1,h2⟩;omega))
       ·exact Or.inl (List.length_eq_zero_iff.1 (by rw[O.out.1];omega))
      go_wp2;go_meet;have:=SJ.out
      show SW enc J blk F _ _
      rcases hn with hn|hn
      ·rw[hn] at this⊢;simpa using this
      ·rw[hn] at this⊢;simpa using this
     ·have hz:=of_decide_eq_true ao.out.symm;go_wp2_with (go_at_call 213;fail)
      try simp only[em,aX]
      refine(bF.out D m en (P++L1) U R1 (Z++S) wc (by simpa using O.out.2.2.1) (by rw[List.length_append,HL.out.2.1,K.out.2.2.1];omega) (by rw[O.out.1];omega) (by rw[K.out.2.2.2.1];omega) (by rw[O.out.1];omega) (by rw[K.out.2.2.2.1];omega) (by simpa using SJ.out)).mono ?_;rintro e w2 ⟨rfl,hS⟩;have HF:Aside _:=hS;clear hS SJ;go_wp2;go_meet;have:=HF.out;simp only[List.append_assoc] at this;exact this
   case rest=>
    have SK:Aside (SW enc J blk F (P++(L1++(R1++(U++(Z++S))))).toArray wc):=hcut;clear hcut SJ;have ag:Aside (Sorted (ltOf I) L1/\Sorted (ltOf I) U/\Sorted (ltOf I) R1/\Sorted (ltOf I) Z):=by
     obtain⟨k1,k2,k3,k4,k5,k6,k7,k8⟩:=HL.out;rw[K.out.1] at k6;rw[K.out.2.1] at k7;exact⟨(Sorted.app.1 k6).1,(Sorted.app.1 k6).2.1,(Sorted.app.1 k7).1,(Sorted.app.1 k7).2.1⟩
    clear ao;obtain⟨bu,bh⟩:∃q:Bool,q=decide (a<D/\D<mid):=⟨_,rfl⟩;have av:Aside (bu=decide (a<D/\D<mid)):=bh;clear bh;obtain⟨wk,be⟩:∃q,q=wc:=⟨_,rfl⟩;rw[<-be] at SK⊢;clear be
    go_upto_region 41 with fail
    go_cut [199] (fun v wx=>v=.bool bu/\wx=wk)
    case first=>
     as_aux_lemma=>
      by_cases hz1:a<D
      ·have z1:(a:Int)<(D:Int):=by omega
       by_cases hz2:D<mid
       ·have z2:(D:Int)<(mid:Int):=by omega
        have hb':bu=true:=by rw[av.out];exact decide_eq_true ⟨hz1,hz2⟩
        subst hb';go_wp2;go_meet;exact⟨rfl,rfl⟩
       ·have z2:¬(D:Int)<(mid:Int):=by omega
        have hb':bu=false:=by rw[av.out];exact decide_eq_false (fun h=>hz2 h.2)
        subst hb';go_wp2;go_meet;exact⟨rfl,rfl⟩
      ·have z1:¬(a:Int)<(D:Int):=by omega
       have hb':bu=false:=by rw[av.out];exact decide_eq_false (fun h=>hz1 h.1)
       subst hb';go_wp2;go_meet;exact⟨rfl,rfl⟩
    case rest=>
    obtain⟨rfl,rfl⟩:=hcut;go_upto_if 199 with fail
    go_cut [] (fun wx=>Aside (∃M1,Sorted (ltOf I) M1/\Same (ltOf I) (L1++R1) M1/\SW enc J blk F (P++(M1++(U++(Z++S)))).toArray wx))
    case first=>
     as_aux_lemma=>
      cases bu
      ·have hn:L1=[]\/R1=[]:=by
        have h:=of_decide_eq_false av.out.symm
        by_cases h1:a<D
        ·exact Or.inr (List.length_eq_zero_iff.1 (by rw[K.out.2.2.2.1];have:¬D<mid:=fun h2=>h ⟨h1,h2⟩;omega))
        ·exact Or.inl (List.length_eq_zero_iff.1 (by rw[K.out.2.2.1];omega))
       go_wp2;go_meet;have:=SK.out;rcases hn with hn|hn
       ·exact⟨R1,ag.out.2.2.1,by rw[hn];simpa using Same.refl _ _,by rw[hn] at this;simpa using this⟩
       ·exact⟨L1,ag.out.1,by rw[hn];simpa using Same.refl _ _,by rw[hn] at this;simpa using this⟩
      ·have hz:=of_decide_eq_true av.out.symm;go_wp2_with (go_at_call 202;fail)
       try simp only[em,aX]
       refine(bd.out a D mid P L1 R1 (U++(Z++S)) wc HL.out.2.1 (by rw[K.out.2.2.1];omega) (by rw[K.out.2.2.2.1];omega) (by rw[K.out.2.2.1];omega) (by rw[K.out.2.2.2.1];omega) ?_ ?_ ag.out.1 ag.out.2.2.1 SK.out).mono ?_
       ·have h1:=HL.out.2.2.1;have h2:=HL.out.2.2.2.1;rw[K.out.2.2.1,K.out.2.2.2.1];omega
       ·have:=O.out.2.2.2;simp only[List.length_append];omega
       rintro e w2 ⟨rfl,hS⟩;have HF:Aside _:=hS;clear hS SK;go_wp2;go_meet;exact HF
    case rest=>
     as_aux_lemma=>
      obtain⟨M1,HM⟩:∃M1,Aside (Sorted (ltOf I) M1/\Same (ltOf I) (L1++R1) M1/\M1.length=mid-a/\SW enc J blk F (P++(M1++(U++(Z++S)))).toArray wc):=by
       obtain⟨M1,q1,q2,q3⟩:=(show Aside _ from hcut).out
       exact⟨M1,q1,q2,by rw[<-q2.len aS.out,List.length_append,K.out.2.2.1,K.out.2.2.2.1];omega,q3⟩
      clear hcut SK;have aQ:Aside (∀(M2:List α) (V:World),Sorted (ltOf I) M2->Same (ltOf I) (U++Z) M2->SW enc J blk F (P++(M1++(M2++S))).toArray V->∃M,Sorted (ltOf I) M/\Same (ltOf I) (L++R') M/\SW enc J blk F (P++(M++S)).toArray V):=by
       intro M2 V h1 h2 h3;obtain⟨k1,k2,k3,k4,k5,k6,k7,k8⟩:=HL.out;obtain⟨r1,r2,r3,r4,r5,r6⟩:=K.out;obtain⟨m1,m2,m3,m4⟩:=HM.out;obtain⟨p1,p2⟩:=sym_cut aS.out (r1▸k6) (r2▸k7) r5 r6 m1 m2 h1 h2;exact⟨M1++M2,p1,by rw[r1,r2];exact p2,by simpa using h3⟩
      have SL:Aside (SW enc J blk F (P++(M1++(U++(Z++S)))).toArray wc):=HM.out.2.2.2
      by_cases hz1:mid<en
      ·have z1:(mid:Int)<(en:Int):=by omega
       have bJ:(mid:Int)<(mid:Int)+(m:Int)-(D:Int):=by omega
       have bB:((a:Int)+(b:Int))/2<((a:Int)+(b:Int))/2+(m:Int)-(D:Int):=by omega
       by_cases hz2:en<b
       ·have z2:(en:Int)<(b:Int):=by omega
        have aT:(mid:Int)+(m:Int)-(D:Int)<(b:Int):=by omega
        have bW:((a:Int)+(b:Int))/2+(m:Int)-(D:Int)<(b:Int):=by omega
        go_wp2_with (go_at_call 202;fail)
        try simp only[em,aX]
        refine(bd.out mid en b (P++M1) U Z S wc (by rw[List.length_append,HL.out.2.1,HM.out.2.2.1];omega) (by rw[O.out.1];omega) (by rw[O.out.2.1];omega) (by rw[O.out.1];omega) (by rw[O.out.2.1];omega) ?_ ?_ ag.out.2.1 ag.out.2.2.2 (by simpa using SL.out)).mono ?_
        ·have h1:=HL.out.2.2.1;have h2:=HL.out.2.2.2.1;rw[O.out.1,O.out.2.1];omega
        ·have:=O.out.2.2.2;have h3:=HM.out.2.2.1;have h4:=K.out.2.2.1;have h5:=K.out.2.2.2.1;simp only[List.length_append];omega
        rintro e w2 ⟨rfl,hS⟩;have HF:Aside _:=hS;clear hS SL;go_wp2
        go_end0
        obtain⟨M2,q1,q2,q3⟩:=HF.out;exact⟨rfl,aQ.out M2 _ q1 q2 (by simpa using q3)⟩
       ·have z2:¬(en:Int)<(b:Int):=by omega
        have aT:¬(mid:Int)+(m:Int)-(D:Int)<(b:Int):=by omega
        have bW:¬((a:Int)+(b:Int))/2+(m:Int)-(D:Int)<(b:Int):=by omega
        have hn:Z=[]:=List.length_eq_zero_iff.1 (by rw[O.out.2.1];omega);go_wp2
        go_end0
        exact⟨rfl,aQ.out U _ ag.out.2.1 (by rw[hn];simpa using Same.refl _ _) (by have:=SL.out;rw[hn] at this;simpa using this)⟩
      ·have z1:¬(mid:Int)<(en:Int):=by omega
       have bJ:¬(mid:Int)<(mid:Int)+(m:Int)-(D:Int):=by omega
       have bB:¬((a:Int)+(b:Int))/2<((a:Int)+(b:Int))/2+(m:Int)-(D:Int):=by omega
       have hn:U=[]:=List.length_eq_zero_iff.1 (by rw[O.out.1];omega);go_wp2
       go_end0
       exact⟨rfl,aQ.out Z _ ag.out.2.2.2 (by rw[hn];simpa using Same.refl _ _) (by have:=SL.out;rw[hn] at this;simpa using this)⟩
end Stb
end Go.Proofs.YtjlgejennghhlaaGreatDoor
