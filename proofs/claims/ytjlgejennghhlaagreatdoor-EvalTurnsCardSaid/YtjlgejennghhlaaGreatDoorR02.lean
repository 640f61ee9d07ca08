import Derived.Shelf.SlSortCmp.Kit1
import Derived.Sort.WalkA
import Derived.Sort.WalkB2
import Derived.Sort.WalkB12
import Derived.Deep.LoopGhost
import Derived.Test.YtjlgejennghhlaaGreatDoorR01
set_option linter.unusedSimpArgs false
set_option linter.unusedVariables false
set_option linter.unusedSectionVars false
set_option maxRecDepth 1000000
set_option maxHeartbeats 16000000
namespace Go.Proofs.YtjlgejennghhlaaGreatDoor
open Go.RowKit
theorem QhA (u F:Value) (h:List Vl) (cs:List Cl) (w:World) (y:QcA w u h) (D:Qax w F cs) (J:1<=cs.length) (V:cs.length<=6):
 Calls Tryz.prog 31 #[u,F] w fun e w'=>e=.returned (.bool (QaO h cs))/\Below w.heap.size w w':=by
 obtain⟨a,c,rfl,O,y⟩:=y;obtain⟨Z,M,rfl,_,_,D⟩:=D
 by_cases hl:h.length=cs.length
 ·rcases D with D|⟨N,U,rfl,I,E⟩
  ·rw[D] at J;simp at J
  ·rcases y with y|⟨b,o,rfl,H,K⟩
   ·rw[y] at hl;simp at hl;omega
   ·rw[<-hl];exact QiK b o c N U M h.length h cs w rfl hl.symm (by omega) H I K E O
 ·rw[Qdp h cs hl];exact QgR _ _ _ _ _ _ _ hl
def Qae (cs:List Cl) (rs:List (List Vl)):Bool:=Qaj cs&&(decide (rs.length<=60)&&rs.all fun r=>QaO r cs)
theorem Qbr {cs:List Cl} (h:Qaj cs=true):1<=cs.length/\cs.length<=6:=by
 simp[Qaj] at h;exact⟨by omega,h.2.1⟩
theorem all_step {p:List Vl->Bool} {rs:List (List Vl)} {k:Nat} (h:k<rs.length) (D:(rs.take k).all p=true) (y:p rs[k]=true):(rs.take (k+1)).all p=true:=by
 rw[List.take_succ_eq_append_getElem h,List.all_append,D];simp[y]
theorem QlE {p:List Vl->Bool} {rs:List (List Vl)} {k:Nat} (h:k<rs.length) (y:p rs[k]=false):rs.all p=false:=by
 rw[List.all_eq_false];exact⟨_,List.getElem_mem h,by simp[y]⟩
theorem right_any (O N:Value) (cs:List Cl) (rs:List (List Vl)) (w:World) (hc:Qax w O cs) (hr:QaG w N rs):
 Calls Tryz.prog 13 #[.agg #[O,N]] w fun e w'=>e=.returned (.bool (Qae cs rs))/\Below w.heap.size w w':=by
 have F:=hc.below (Qaa w (.cells #[O,N] 54));have V:=hr.below (Qaa w (.cells #[O,N] 54));obtain⟨a,c,rfl,-,-,-⟩:=hc;obtain⟨a',c',rfl,-⟩:=hr
 cases g1:Qaj cs
 ·have H:Hid (Qae cs rs=false):=by show Qae cs rs=false;simp[Qae,g1]
  have E:=Qb7 _ cs _ F;simp only[g1] at E;have M:=Hk E;clear E F V;go_enter Tryz.func13,Tryz.ntmps13;go_wp2_with (go_at_call 30;refine M.out.mono ?_;rintro e w' ⟨rfl,y⟩);go_ret;exact⟨ret_bool H.out.symm,(Qaa _ _).trans (y.mono (by simp))⟩
 ·obtain⟨h1,h6⟩:=Qbr g1;have E:=Qb7 _ cs _ F;simp only[g1] at E;have M:=Hk E;clear E
  by_cases h60:rs.length<=60
  ·have H:Hid (Qae cs rs=rs.all fun r=>QaO r cs):=by show _=_;simp[Qae,g1,h60]
   have ab:¬((60:Int)<(rs.length:Int)):=by omega
   go_enter Tryz.func13,Tryz.ntmps13;go_wp2_with (go_at_call 30;refine M.out.mono ?_;rintro e K ⟨rfl,y⟩;obtain⟨U,aa⟩:=QaQ y);have al:=F.below y;have aj:=V.below y;have hz:w.heap.size+1<=K.heap.size:=by have:=y.size;simpa using this
   go_loopw [18] (fun i wr=>∃k:Nat,k<=rs.length/\i=.int .i64 k/\(rs.take k).all (fun r=>QaO r cs)=true/\Below K.heap.size K wr) (fun i _=>rs.length-(intOf i).toNat)
   case atStart=>exact⟨0,Nat.zero_le _,rfl,rfl,Below.refl _ _⟩
   case round=>
    obtain⟨k,hk,rfl,Z,h⟩:=hrel;have HA:=Hk Z;clear Z;have t1:wr.cell? ⟨w.heap.size,0,none⟩=some (.slice a cs.length c):=(h.cell (p:=⟨w.heap.size,0,none⟩) (by exact hz)).trans ((U _ _ (by simp)).trans (by simp))
    by_cases hlt:k<rs.length
    ·obtain⟨a2,c2,e2,D⟩:=aj;rcases D with D|⟨rb,ro,rfl,ah,D⟩
     ·rw[D] at hlt;simp at hlt
     ·simp only[Value.slice.injEq] at e2;obtain⟨rfl,-,rfl⟩:=e2;obtain⟨u,hu,J⟩:=D k hlt;have hu':=cK h ah hu;have hq:=QhA u (.slice a cs.length c) rs[k] cs wr (J.below h) (al.below h) h1 h6;obtain⟨a3,c3,rfl,-,-⟩:=J;have HQ:=Hk hq;clear hq hu
      cases g2:QaO rs[k] cs
      ·go_wp2_with (go_at_call 31;refine HQ.out.mono ?_;rintro e w2 ⟨rfl,I⟩);go_ret;exact⟨ret_bool (by rw[H.out];exact(QlE (p:=fun r=>QaO r cs) hlt g2).symm),(Qaa _ _).trans ((y.mono (by simp)).trans ((h.mono (by omega)).trans (I.mono (by have:=h.size;omega))))⟩
      ·go_wp2_with (go_at_call 31;refine HQ.out.mono ?_;rintro e w2 ⟨rfl,I⟩);go_roundw
       case rel=>exact⟨k+1,by omega,by go_num,all_step (p:=fun r=>QaO r cs) hlt HA.out g2,h.trans (I.mono h.size)⟩
       case measure=>simp[intOf];omega
    ·go_wp2;go_ret;exact⟨ret_bool (by have:=HA.out;rw[List.take_of_length_le (by omega)] at this;rw[H.out];exact this.symm),(Qaa _ _).trans ((y.mono (by simp)).trans (h.mono (by omega)))⟩
  ·have H:Hid (Qae cs rs=false):=by show _=_;simp[Qae,h60]
   have ab:(60:Int)<(rs.length:Int):=by omega
   go_enter Tryz.func13,Tryz.ntmps13;go_wp2_with (go_at_call 30;refine M.out.mono ?_;rintro e K ⟨rfl,y⟩;obtain⟨U,aa⟩:=QaQ y);go_ret;exact⟨ret_bool H.out.symm,(Qaa _ _).trans (y.mono (by simp))⟩
structure Env (w:World):Prop where
 size:∀g,g∈[4,2,6,7,10]->g<w.heap.size
 mx:∃m,w.cell? ⟨4,0,none⟩=some (.int .i64 m)
 k0:w.cell? ⟨2,0,none⟩=some (.string ⟨#[]⟩)
 k1:w.cell? ⟨2,1,none⟩=some (.string ⟨#[105,110,116]⟩)
 k2:w.cell? ⟨2,2,none⟩=some (.string ⟨#[116,101,120,116]⟩)
 es:∃tp p,w.var? Tryz.prog "strconv.ErrSyntax"=some #[.iface tp p]
 er:∃tp p,w.var? Tryz.prog "strconv.ErrRange"=some #[.iface tp p]
 pw:Lib.TabIs Tryz.prog w "internal/strconv.uint64pow10" .u64 Lib.pow10Tab
theorem Env.below {w w':World} (h:Env w) (y:Below w.heap.size w w'):Env w':=by
 have D:=h.size;refine⟨fun g hg=>Nat.lt_of_lt_of_le (h.size g hg) y.size,?_,?_,?_,?_,?_,?_,?_⟩
 ·obtain⟨m,H⟩:=h.mx;exact⟨m,cK y (D _ (by simp)) H⟩
 ·exact cK y (D _ (by simp)) h.k0
 ·exact cK y (D _ (by simp)) h.k1
 ·exact cK y (D _ (by simp)) h.k2
 ·obtain⟨F,p,E⟩:=h.es;exact⟨F,p,var?_below (g:=6) y (by kernel_rfl) (D _ (by simp)) E⟩
 ·obtain⟨F,p,E⟩:=h.er;exact⟨F,p,var?_below (g:=7) y (by kernel_rfl) (D _ (by simp)) E⟩
 ·exact var?_below (g:=10) y (by kernel_rfl) (D _ (by simp)) h.pw
theorem QiL (w:World) (k:Nat) (os:Array Obj):Below w.heap.size w (Sort.grow (w.drewN k) os):=
 ⟨rfl,rfl,rfl,by simp[Sort.grow,World.drewN],fun k hk=>by simp[Sort.grow,World.drewN,Array.getElem?_append,hk]⟩
theorem Qjo {x:ByteArray} {l:List UInt8} (h:x.data.toList=l):Ending.returned (.string x)=.returned (.string ⟨l.toArray⟩):=by rw[Qgl h]
def Qb3 (k n:Int) (l:List UInt8):List UInt8:=if k=1 then Lib.itoa n else 39::(l++[39])
theorem Qfj (k n:Int) (s:ByteArray) (w:World) (K:s.size<=1000) (F: -9223372036854775808<=n) (E:n<=9223372036854775807) (h:Env w):
 Calls Tryz.prog 122 #[.agg #[.int .i64 k,.int .i64 n,.string s]] w fun e w'=>e=.returned (.string ⟨(Qb3 k n s.data.toList).toArray⟩)/\Below w.heap.size w w':=by
 have D:=Tryz.strconv_Itoa n F E (w.alloc (.cells #[.int .i64 k,.int .i64 n,.string s] 46)) (h.below (Qaa _ _)).pw;have HI:=Hk D;have J:=Hk h;clear D h
 cases g:(k==1)
 ·have y:Hid (Qb3 k n s.data.toList=39::(s.data.toList++[39])):=by show _=_;simp at g;simp[Qb3,g]
  clear HI F E;go_enter Tryz.func122,Tryz.ntmps122;go_wp2;go_ret;exact⟨Qjo (by rw[y.out];simp),Qaa _ _⟩
 ·have y:Hid (Qb3 k n s.data.toList=Lib.itoa n):=by show _=_;simp at g;simp[Qb3,g]
  go_enter Tryz.func122,Tryz.ntmps122;go_wp2_with (go_at_call 166;refine HI.out.mono ?_;rintro e w' ⟨rfl,I,H,rfl⟩);go_ret;refine⟨Qjo (by rw[y.out]),(Qaa _ _).trans ((QiL _ _ _).mono (by simp))⟩
theorem QrX {s:ByteArray} (h:s.toList.isEmpty=true):s.data.toList=[]:=by rw[ByteArray.toList_eq,List.isEmpty_iff] at h;exact h
theorem QrY {s:ByteArray} (h:s.toList.isEmpty=false):s.data.toList≠[]:=by
 rw[ByteArray.toList_eq] at h;intro e;rw[e] at h;simp at h
theorem QrO {l:List UInt8} {s:ByteArray} (h:(l==s.toList)=true):s.data.toList=l:=by rw[ByteArray.toList_eq] at h;exact(beq_iff_eq.1 h).symm
theorem QrP {l:List UInt8} {s:ByteArray} (h:(l==s.toList)=false):s.data.toList≠l:=by
 rw[ByteArray.toList_eq] at h;intro e;rw[e] at h;simp at h
def QiM (l:List UInt8):Int:=if l=[105,110,116] then 1 else if l=[116,101,120,116] then 2 else 0
theorem Qkj (s:ByteArray) (w:World) (h:Env w):
 Calls Tryz.prog 86 #[.string s] w fun e w'=>e=.returned (.int .i64 (QiM s.data.toList))/\w'=w:=by
 have k0:=h.k0;have k1:=h.k1;have k2:=h.k2;clear h;go_enter Tryz.func86,Tryz.ntmps86;go_wp2
 go_loop [4] (fun i=>∃k:Nat,k<=3/\i=.int .i64 k/\(1<=k->s.data.toList≠[])/\(2<=k->s.data.toList≠[105,110,116])/\(3<=k->s.data.toList≠[116,101,120,116])) (fun i=>3-(intOf i).toNat)
 case atStart=>exact⟨0,by omega,rfl,by omega,by omega,by omega⟩
 case round=>
  obtain⟨k,J,rfl,H,y,D⟩:=hrel;have F:=Hk H;have E:=Hk y;have I:=Hk D;clear H y D;rcases(show k=0\/k=1\/k=2\/k=3 by omega) with rfl|rfl|rfl|rfl
  ·cases e:s.toList.isEmpty
   ·go_wp2
    go_round
    case rel=>exact⟨1,by omega,rfl,fun _=>QrY e,by omega,by omega⟩
    case measure=>simp[intOf]
   ·go_wp2;go_ret;exact⟨QbB (by rw[QrX e];rfl),rfl⟩
  ·cases e:([105,110,116]==s.toList)
   ·go_wp2
    go_round
    case rel=>exact⟨2,by omega,rfl,fun _=>F.out (by omega),fun _=>QrP e,by omega⟩
    case measure=>simp[intOf]
   ·go_wp2;go_ret;exact⟨QbB (by rw[QrO e];rfl),rfl⟩
  ·cases e:([116,101,120,116]==s.toList)
   ·go_wp2
    go_round
    case rel=>exact⟨3,by omega,rfl,fun _=>F.out (by omega),fun _=>E.out (by omega),fun _=>QrP e⟩
    case measure=>simp[intOf]
   ·go_wp2;go_ret;exact⟨QbB (by rw[QrO e];rfl),rfl⟩
  ·go_wp2;go_ret;exact⟨QbB (by have y:=E.out (by omega);have D:=I.out (by omega);simp[QiM,y,D]),rfl⟩
end Go.Proofs.YtjlgejennghhlaaGreatDoor
namespace Go.Proofs.YtjlgejennghhlaaGreatDoor
namespace Stb
variable {α:Type}
structure Ord (lt:α->α->Bool):Prop where
 asymm:∀a b,lt a b=true->lt b a=false
 ntrans:∀a b c,lt a b=false->lt b c=false->lt a c=false
theorem Ord.irr {lt:α->α->Bool} (h:Ord lt) (a:α):lt a a=false:=by
 cases e:lt a a with
 |false=>rfl
 |true=>exact(h.asymm a a e).symm.trans e|>.symm▸rfl
theorem Ord.lt_le {lt:α->α->Bool} (h:Ord lt) {a b c:α} (y:lt a b=true) (D:lt c b=false):lt a c=true:=by
 cases e:lt a c with
 |true=>rfl
 |false=>exact absurd (h.ntrans a c b e D) (by rw[y];decide)
theorem Ord.le_lt {lt:α->α->Bool} (h:Ord lt) {a b c:α} (y:lt b a=false) (D:lt b c=true):lt a c=true:=by
 cases e:lt a c with
 |true=>rfl
 |false=>exact absurd (h.ntrans b a c y e) (by rw[D];decide)
def eqv (lt:α->α->Bool) (x y:α):Bool:= !lt x y&& !lt y x
def Sorted (lt:α->α->Bool) (l:List α):Prop:=l.Pairwise (fun a b=>lt b a=false)
def Same (lt:α->α->Bool) (l l':List α):Prop:=∀x,l.filter (eqv lt x)=l'.filter (eqv lt x)
theorem Same.refl (lt:α->α->Bool) (l:List α):Same lt l l:=fun _=>rfl
theorem Same.trans {lt:α->α->Bool} {a b c:List α} (h:Same lt a b) (y:Same lt b c):Same lt a c:=fun x=>(h x).trans (y x)
theorem Same.symm {lt:α->α->Bool} {a b:List α} (h:Same lt a b):Same lt b a:=fun x=>(h x).symm
theorem Same.app {lt:α->α->Bool} {a b c d:List α} (h:Same lt a b) (y:Same lt c d):Same lt (a++c) (b++d):=fun x=>by rw[List.filter_append,List.filter_append,h x,y x]
theorem eqv_self {lt:α->α->Bool} (h:Ord lt) (x:α):eqv lt x x=true:=by simp[eqv,h.irr]
theorem Same.mem {lt:α->α->Bool} (D:Ord lt) {a b:List α} (h:Same lt a b) {x:α}:x∈a↔x∈b:=by
 have y:∀l:List α,x∈l↔x∈l.filter (eqv lt x):=fun l=>by rw[List.mem_filter];exact⟨fun h=>⟨h,eqv_self D x⟩,fun h=>h.1⟩
 rw[y a,y b,h x]
theorem Same.swap {lt:α->α->Bool} (I:Ord lt) {X Y:List α} (h:∀x∈X,∀y∈Y,lt y x=true):Same lt (X++Y) (Y++X):=by
 intro z;rw[List.filter_append,List.filter_append]
 by_cases hx:X.filter (eqv lt z)=[]
 ·rw[hx];simp
 ·have J:Y.filter (eqv lt z)=[]:=by
   obtain⟨x,D⟩:=List.exists_mem_of_ne_nil _ hx;rw[List.mem_filter] at D;rw[List.filter_eq_nil_iff];intro y H E;have K:=h x D.1 y H;have F:=D.2;simp only[eqv,Bool.and_eq_true,Bool.not_eq_true'] at F E
   --lt y z=false,lt z x=false->lt y x=false
   exact absurd (I.ntrans y z x E.2 F.1) (by rw[K];decide)
  rw[J];simp
theorem Sorted.app {lt:α->α->Bool} {X Y:List α}:Sorted lt (X++Y)↔Sorted lt X/\Sorted lt Y/\∀x∈X,∀y∈Y,lt y x=false:=by
 unfold Sorted;exact List.pairwise_append
theorem sorted_one {lt:α->α->Bool} (D:Ord lt):∀{a b:List α},Sorted lt a->Sorted lt b->Same lt a b->a=b
 |[],[],_,_,_=>rfl
 |[],y::b,_,_,h=>absurd ((h.mem D (x:=y)).2 (by simp)) (by simp)
 |x::a,[],_,_,h=>absurd ((h.mem D (x:=x)).1 (by simp)) (by simp)
 |x::a,y::b,ha,hb,h=>by
  have F:eqv lt x y=true:=by
   simp only[eqv,Bool.and_eq_true,Bool.not_eq_true'];constructor
   ·have:=(h.mem D (x:=x)).1 (by simp);rcases List.mem_cons.1 this with e|E
    ·subst e;exact D.irr _
    ·exact(List.pairwise_cons.1 hb).1 x E
   ·have:=(h.mem D (x:=y)).2 (by simp);rcases List.mem_cons.1 this with e|E
    ·subst e;exact D.irr _
    ·exact(List.pairwise_cons.1 ha).1 y E
  have H:=h x;rw[List.filter_cons_of_pos (eqv_self D x),List.filter_cons_of_pos F] at H;obtain⟨e,I⟩:=List.cons.inj H;subst e;have:Same lt a b:=fun z=>by
   have:=h z
   by_cases hz:eqv lt z x=true
   ·rw[List.filter_cons_of_pos hz,List.filter_cons_of_pos hz] at this;exact(List.cons.inj this).2
   ·rw[List.filter_cons_of_neg hz,List.filter_cons_of_neg hz] at this;exact this
  rw[sorted_one D (List.pairwise_cons.1 ha).2 (List.pairwise_cons.1 hb).2 this]
theorem Same.len {lt:α->α->Bool} (D:Ord lt):∀{a b:List α},Same lt a b->a.length=b.length
 |[],b,h=>by
  cases b with
  |nil=>rfl
  |cons y b=>exact absurd ((h.mem D (x:=y)).2 (by simp)) (by simp)
 |x::a,b,h=>by
  have V:=(h.mem D (x:=x)).1 (by simp)
  --the first of b that is alike is x
  have H:=h x;rw[List.filter_cons_of_pos (eqv_self D x)] at H;obtain⟨p,q,O,J,h2⟩:∃p q,b=p++x::q/\(∀y∈p,¬eqv lt x y=true)/\a.filter (eqv lt x)=q.filter (eqv lt x):=by
   obtain⟨p,q,K,U,Z,N⟩:=List.filter_eq_cons_iff.1 H.symm;exact⟨p,q,K,U,N.symm⟩
  subst O;have:Same lt a (p++q):=fun z=>by
   have F:=h z
   by_cases hzx:eqv lt z x=true
   ·have I:p.filter (eqv lt z)=[]:=by
     rw[List.filter_eq_nil_iff];intro y M E;refine J y M ?_;simp only[eqv,Bool.and_eq_true,Bool.not_eq_true'] at hzx E⊢;exact⟨D.ntrans _ _ _ hzx.2 E.1,D.ntrans _ _ _ E.2 hzx.1⟩
    rw[List.filter_append,I] at F⊢;rw[List.filter_cons_of_pos hzx,List.nil_append,List.filter_cons_of_pos hzx] at F;rw[List.nil_append];exact(List.cons.inj F).2
   ·rw[List.filter_cons_of_neg hzx,List.filter_append,List.filter_cons_of_neg hzx] at F;rw[List.filter_append];exact F
  have:=Same.len D this;simp at this⊢;omega
theorem Same.filter {lt:α->α->Bool} {a b:List α} (h:Same lt a b) (p:α->Bool):Same lt (a.filter p) (b.filter p):=fun x=>by
 have:=congrArg (List.filter p) (h x);rw[List.filter_filter,List.filter_filter] at this;rw[List.filter_filter,List.filter_filter];have e:(fun a=>eqv lt x a&&p a)=(fun a=>p a&&eqv lt x a):=by funext a;exact Bool.and_comm _ _
 rw[e];exact this
theorem Sorted.filter {lt:α->α->Bool} {a:List α} (h:Sorted lt a) (p:α->Bool):Sorted lt (a.filter p):=List.Pairwise.filter p h
theorem put_one {lt:α->α->Bool} (F:Ord lt) {A C:List α} {x:α} (M:Sorted lt (A++C)) (E:∀c∈C,lt x c=true) (N:∀a∈A,lt x a=false):Sorted lt (A++x::C)/\Same lt (A++C++[x]) (A++x::C):=by
 obtain⟨J,I,K⟩:=Sorted.app.1 M;refine⟨Sorted.app.2 ⟨J,List.pairwise_cons.2 ⟨fun c D=>F.asymm _ _ (E c D),I⟩,?_⟩,?_⟩
 ·intro a H y h;rcases List.mem_cons.1 h with rfl|h
  ·exact N a H
  ·exact K a H y h
 ·rw[List.append_assoc];refine(Same.refl lt A).app ?_;refine(Same.swap F (X:=C) (Y:=[x]) ?_);intro c D y h;simp at h;subst h;exact E c D
theorem sym_cut {lt:α->α->Bool} (J:Ord lt) {F I H E M N:List α} (hL:Sorted lt (F++I)) (hR:Sorted lt (H++E)) (U:∀x∈I,∀y∈H,lt y x=true) (V:∀x∈F,∀y∈E,lt y x=false)
 (Z:Sorted lt M) (O:Same lt (F++H) M) (hN:Sorted lt N) (K:Same lt (I++E) N):Sorted lt (M++N)/\Same lt ((F++I)++(H++E)) (M++N):=by
 obtain⟨a1,a2,a3⟩:=Sorted.app.1 hL;obtain⟨b1,b2,b3⟩:=Sorted.app.1 hR;refine⟨Sorted.app.2 ⟨Z,hN,?_⟩,?_⟩
 ·intro x D y h;rw[<-O.mem J] at D;rw[<-K.mem J] at h;rcases List.mem_append.1 D with D|D<;>rcases List.mem_append.1 h with h|h
  ·exact a3 x D y h
  ·exact V x D y h
  ·exact J.asymm _ _ (U y h x D)
  ·exact b3 x D y h
 ·have e:Same lt ((F++I)++(H++E)) ((F++H)++(I++E)):=by
   rw[List.append_assoc,List.append_assoc];refine(Same.refl lt F).app ?_;rw[<-List.append_assoc,<-List.append_assoc];exact(Same.swap J U).app (Same.refl lt E)
  exact e.trans (O.app K)
theorem put_first {lt:α->α->Bool} (D:Ord lt) {A C:List α} {x:α} (N:Sorted lt (A++C)) (F:∀a∈A,lt a x=true) (I:∀c∈C,lt c x=false):Sorted lt (A++x::C)/\Same lt (x::(A++C)) (A++x::C):=by
 obtain⟨K,J,M⟩:=Sorted.app.1 N;refine⟨Sorted.app.2 ⟨K,List.pairwise_cons.2 ⟨I,J⟩,?_⟩,?_⟩
 ·intro a E y h;rcases List.mem_cons.1 h with rfl|h
  ·exact D.asymm _ _ (F a E)
  ·exact M a E y h
 ·have:=(Same.swap D (X:=[x]) (Y:=A) (by intro z H y h;simp at H;subst H;exact F y h)).app (Same.refl lt C);simpa using this
theorem sorted_head {lt:α->α->Bool} (E:Ord lt) {y:α} {l:List α} (h:Sorted lt (y::l)):∀x∈y::l,lt x y=false:=by
 intro x D;rcases List.mem_cons.1 D with rfl|D
 ·exact E.irr _
 ·exact(List.pairwise_cons.1 h).1 x D
theorem sorted_last {lt:α->α->Bool} (F:Ord lt) {E:α} {l:List α} (h:Sorted lt (l++[E])):∀y∈l++[E],lt E y=false:=by
 intro y D;rcases List.mem_append.1 D with D|D
 ·exact(Sorted.app.1 h).2.2 y D E (by simp)
 ·simp at D;subst D;exact F.irr _
theorem sym_find {lt:α->α->Bool} (E:Ord lt) {P L R S:List α} {a m b mid start:Nat} (I:P.length=a) (hL:L.length=m-a) (hR:R.length=b-m) (ah:a<m) (ak:m<b) (af:mid=(a+b)/2) (Z:Sorted lt L) (sR:Sorted lt R)
 (K:(if mid<m then mid+m-b else a)<=start) (J:start<=if mid<m then mid else m)
 (hA:start=(if mid<m then mid+m-b else a)\/∀x y,(P++(L++(R++S)))[start-1]? =some x->(P++(L++(R++S)))[mid+m-start]? =some y->lt y x=false)
 (hB:start=(if mid<m then mid else m)\/∀x y,(P++(L++(R++S)))[start]? =some x->(P++(L++(R++S)))[mid+m-1-start]? =some y->lt y x=true):
 ∃L1 L2 R1 R2,L=L1++L2/\R=R1++R2/\L1.length=start-a/\R1.length=mid-start/\(∀x∈L2,∀y∈R1,lt y x=true)/\∀x∈L1,∀y∈R2,lt y x=false:=by
 have aj:a<=start:=by split at K<;>omega
 have am:start<=m:=by split at J<;>omega
 have al:start<=mid:=by split at J<;>omega
 have ai:mid+m-start<=b:=by split at K<;>omega
 refine⟨L.take (start-a),L.drop (start-a),R.take (mid-start),R.drop (mid-start),(List.take_append_drop _ _).symm,(List.take_append_drop _ _).symm,by rw[List.length_take];omega,by rw[List.length_take];omega,?_,?_⟩
 ·by_cases hm:start=m
  ·intro x D;rw[List.drop_eq_nil_of_le (by omega)] at D;simp at D
  by_cases hd:start=mid
  ·intro x _ y h;rw[hd,Nat.sub_self,List.take_zero] at h;simp at h
  have hB':=hB.resolve_left (by split<;>omega);have O:(P++(L++(R++S)))[start]? =some (L[start-a]'(by omega)):=by
   rw[List.getElem?_append_right (by omega),List.getElem?_append_left (by omega),I,List.getElem?_eq_getElem]
  have N:(P++(L++(R++S)))[mid+m-1-start]? =some (R[mid-start-1]'(by omega)):=by
   rw[List.getElem?_append_right (by omega),List.getElem?_append_right (by omega),List.getElem?_append_left (by omega),I,hL,<-List.getElem?_eq_getElem]
   congr 1
   omega
  have M:=hB' _ _ O N;have V:L.drop (start-a)=L[start-a]'(by omega)::L.drop (start-a+1):=by rw[List.drop_eq_getElem_cons (by omega)]
  have ac:R.take (mid-start)=R.take (mid-start-1)++[R[mid-start-1]'(by omega)]:=by
   have:=List.take_succ_eq_append_getElem (l:=R) (i:=mid-start-1) (by omega);rw[show mid-start-1+1=mid-start by omega] at this;exact this
  have H:=(Sorted.app.1 ((List.take_append_drop (start-a) L).symm▸Z)).2.1;have F:=(Sorted.app.1 ((List.take_append_drop (mid-start) R).symm▸sR)).1;rw[V] at H⊢;rw[ac] at F⊢;intro x D y h;have k1:=sorted_head E H x D;have k2:=sorted_last E F y h;exact E.lt_le (E.le_lt k2 M) k1
 ·by_cases hm:start=a
  ·intro x D;rw[hm,Nat.sub_self,List.take_zero] at D;simp at D
  by_cases hd:mid+m-start=b
  ·intro x _ y h;rw[List.drop_eq_nil_of_le (by omega)] at h;simp at h
  have hA':=hA.resolve_left (by split<;>omega);have O:(P++(L++(R++S)))[start-1]? =some (L[start-a-1]'(by omega)):=by
   rw[List.getElem?_append_right (by omega),List.getElem?_append_left (by omega),I,<-List.getElem?_eq_getElem]
   congr 1
   omega
  have N:(P++(L++(R++S)))[mid+m-start]? =some (R[mid-start]'(by omega)):=by
   rw[List.getElem?_append_right (by omega),List.getElem?_append_right (by omega),List.getElem?_append_left (by omega),I,hL,<-List.getElem?_eq_getElem]
   congr 1
   omega
  have M:=hA' _ _ O N;have U:R.drop (mid-start)=R[mid-start]'(by omega)::R.drop (mid-start+1):=by rw[List.drop_eq_getElem_cons (by omega)]
  have ad:L.take (start-a)=L.take (start-a-1)++[L[start-a-1]'(by omega)]:=by
   have:=List.take_succ_eq_append_getElem (l:=L) (i:=start-a-1) (by omega);rw[show start-a-1+1=start-a by omega] at this;exact this
  have H:=(Sorted.app.1 ((List.take_append_drop (start-a) L).symm▸Z)).1;have F:=(Sorted.app.1 ((List.take_append_drop (mid-start) R).symm▸sR)).2.1;rw[U] at F⊢;rw[ad] at H⊢;intro x D y h;have k1:=sorted_last E H x D;have k2:=sorted_head E F y h;exact E.ntrans _ _ _ (E.ntrans _ _ _ k2 M) k1
theorem cut_two {lt:α->α->Bool} {R:List α} (M:Sorted lt R) (k:Nat) (Z:k<=R.length) (p:α->Bool) (J:∀x y,lt y x=false->p x=false->p y=false) (N:∀x y,lt y x=false->p y=true->p x=true)
 (I:k=0\/∀y,R[k-1]? =some y->p y=true) (U:k=R.length\/∀y,R[k]? =some y->p y=false) (K:Ord lt):
 ∃R1 R2,R=R1++R2/\R1.length=k/\(∀y∈R1,p y=true)/\∀y∈R2,p y=false:=by
 refine⟨R.take k,R.drop k,(List.take_append_drop _ _).symm,by rw[List.length_take];omega,?_,?_⟩
 ·rcases I with rfl|I
  ·intro y D;simp at D
  ·intro y D;have V:0<k:=by
    rcases Nat.eq_zero_or_pos k with rfl|h
    ·simp at D
    ·exact h
   have H:=I _ (List.getElem?_eq_getElem (by omega));have O:R.take k=R.take (k-1)++[R[k-1]'(by omega)]:=by
    have:=List.take_succ_eq_append_getElem (l:=R) (i:=k-1) (by omega);rw[show k-1+1=k by omega] at this;exact this
   have E:=(Sorted.app.1 ((List.take_append_drop k R).symm▸M)).1;rw[O] at E D;exact N _ _ (sorted_last K E y D) H
 ·intro y D;have F:k<R.length:=by
   rcases Nat.lt_or_ge k R.length with h|h
   ·exact h
   ·rw[List.drop_eq_nil_of_le h] at D;simp at D
  have H:=U.resolve_left (by omega) _ (List.getElem?_eq_getElem F);have E:=(Sorted.app.1 ((List.take_append_drop k R).symm▸M)).2.1;rw[List.drop_eq_getElem_cons F] at E D;exact J _ _ (sorted_head K E y D) H
theorem find_first {lt:α->α->Bool} (D:Ord lt) {P R S:List α} {x:α} {a m b i:Nat} (N:P.length=a) (M:m=a+1) (O:R.length=b-m) (J:m<=i) (K:i<=b) (F:Sorted lt R)
 (I:i=m\/∀y,(P++([x]++(R++S)))[i-1]? =some y->lt y x=true) (H:i=b\/∀y,(P++([x]++(R++S)))[i]? =some y->lt y x=false):
 ∃R1 R2,R=R1++R2/\R1.length=i-m/\(∀y∈R1,lt y x=true)/\∀y∈R2,lt y x=false:=by
 refine cut_two F (i-m) (by omega) (fun y=>lt y x) (fun u v h1 h2=>D.ntrans _ _ _ h1 h2) (fun u v h1 h2=>D.le_lt h1 h2) ?_ ?_ D
 ·rcases I with h|h
  ·left;omega
  ·by_cases h0:i=m
   ·left;omega
   ·right;intro y E
    refine h y ?_;rw[List.getElem?_append_right (by omega),List.getElem?_append_right (by simp;omega),List.getElem?_append_left (by simp;omega),<-E]
    congr 1
    simp;omega
 ·rcases H with h|h
  ·left;omega
  ·by_cases h0:i=b
   ·left;omega
   ·right;intro y E
    refine h y ?_;rw[List.getElem?_append_right (by omega),List.getElem?_append_right (by simp;omega),List.getElem?_append_left (by simp;omega),<-E]
    congr 1
    simp;omega
theorem find_last {lt:α->α->Bool} (D:Ord lt) {P L S:List α} {x:α} {a m i:Nat} (M:P.length=a) (N:L.length=m-a) (K:a<=i) (J:i<=m) (F:Sorted lt L)
 (I:i=a\/∀y,(P++(L++S))[i-1]? =some y->lt x y=false) (H:i=m\/∀y,(P++(L++S))[i]? =some y->lt x y=true):
 ∃L1 L2,L=L1++L2/\L1.length=i-a/\(∀y∈L1,lt x y=false)/\∀y∈L2,lt x y=true:=by
 have:=cut_two F (i-a) (by omega) (fun y=> !lt x y) (fun u v h1 h2=>?_) (fun u v h1 h2=>?_) ?_ ?_ D
 ·simpa using this
 ·simp at h2⊢;exact D.lt_le h2 h1
 ·simp at h2⊢;exact D.ntrans _ _ _ h2 h1
 ·rcases I with h|h
  ·left;omega
  ·by_cases h0:i=a
   ·left;omega
   ·right;intro y E
    have:=h y (by
     rw[List.getElem?_append_right (by omega),List.getElem?_append_left (by omega),<-E]
     congr 1
     omega)
    simp[this]
 ·rcases H with h|h
  ·left;omega
  ·by_cases h0:i=m
   ·left;omega
   ·right;intro y E
    have:=h y (by
     rw[List.getElem?_append_right (by omega),List.getElem?_append_left (by omega),<-E]
     congr 1
     omega)
    simp[this]
end Stb
end Go.Proofs.YtjlgejennghhlaaGreatDoor
namespace Go.Proofs.YtjlgejennghhlaaGreatDoor
namespace Stb
open Go.Shelf Go.RowKit Go.Lib Go.Sort
variable {α:Type} [Inhabited α]
theorem arr_at (A C:List α) (x:α) (k:Nat) (h:k=A.length):((A++x::C).toArray)[k]! =x:=by
 subst h;simp
theorem swp_list (A B C:List α) (x y:α) (i j:Nat) (h:i=A.length) (F:j=A.length+1+B.length):swp (A++x::(B++y::C)).toArray i j=(A++y::(B++x::C)).toArray:=by
 have D:=arr_at A (B++y::C) x i h;have E:((A++x::(B++y::C)).toArray)[j]! =y:=by
  have:=arr_at (A++x::B) C y j (by simp;omega);simpa using this
 unfold swp;rw[D,E];subst h;simp only[List.setIfInBounds_toArray]
 congr 1
 rw[List.set_append_right _ _ (Nat.le_refl _),Nat.sub_self,List.set_cons_zero,List.set_append_right _ _ (by omega),show j-A.length=B.length+1 by omega,List.set_cons_succ,List.set_append_right _ _ (Nat.le_refl _),Nat.sub_self,List.set_cons_zero]
theorem swp_list' (A B C:List α) (x y:α) (i j:Nat) (h:i=A.length) (F:j=A.length+1+B.length):swp (A++x::(B++y::C)).toArray j i=(A++y::(B++x::C)).toArray:=by
 have D:=arr_at A (B++y::C) x i h;have E:((A++x::(B++y::C)).toArray)[j]! =y:=by
  have:=arr_at (A++x::B) C y j (by simp;omega);simpa using this
 unfold swp;rw[D,E];subst h;simp only[List.setIfInBounds_toArray]
 congr 1
 rw[List.set_append_right _ _ (by omega),show j-A.length=B.length+1 by omega,List.set_cons_succ,List.set_append_right _ _ (Nat.le_refl _),Nat.sub_self,List.set_cons_zero,List.set_append_right _ _ (Nat.le_refl _),Nat.sub_self,List.set_cons_zero]
theorem arr_get (l:List α) (k:Nat) (h:k<l.length):l[k]? =some (l.toArray[k]!):=by
 rw[List.getElem?_eq_getElem h,getElem!_pos _ _ (by simpa using h)];simp
theorem swapRange_any (enc:α->Value) (cv:Value) (blk h ay a b n N:Nat) (P X M Y S:List α) (d0:Array α) (w0 w:World) (R:Row1 enc w0 blk h d0) (hN:d0.size=N) (af:(P++(X++(M++(Y++S)))).length=N) (ha:P.length=a) (hX:X.length=n) (hY:Y.length=n) (hb:b=a+n+M.length) (aQ:N<4611686018427387904)
 (S0:SW enc w0 blk h (P++(X++(M++(Y++S)))).toArray w):
 Calls Tryz.prog 221 #[.slice (some ⟨blk,h,none⟩) N ay,.int .i64 a,.int .i64 b,.int .i64 n,cv] w fun e w'=>e=.returned (.tuple #[])/\SW enc w0 blk h (P++(Y++(M++(X++S)))).toArray w':=by
 have aG:Tryz.prog.follows .mixedOrders=true:=by kernel_rfl
 have ao:=R.hO.cells;simp only[Value.cells] at ao;have aP:=R.hO.store Tryz.prog;have HS:Aside (SW enc w0 blk h (P++(X++(M++(Y++S)))).toArray w):=S0;have hlen':P.length+(X.length+(M.length+(Y.length+S.length)))=N:=by simpa using af
 clear S0 af;go_enter Tryz.func221,Tryz.ntmps221;go_wp2
 go_loopg [10] n (fun g1 vi wr=>∃(i:Nat) (E X2 D Z:List α),vi=.int .i64 i/\i<=n/\n-i<=g1/\X=E++X2/\Y=D++Z/\E.length=i/\D.length=i/\Aside (SW enc w0 blk h (P++(D++(X2++(M++(E++(Z++S)))))).toArray wr))
 case atStart=>exact⟨0,[],X,[],Y,rfl,by omega,by omega,rfl,rfl,rfl,rfl,HS⟩
 case round=>
  clear HS;obtain⟨i,E,X2,D,Z,rfl,hi,hg,I,J,h1,h2,U⟩:=hrel
  by_cases hlt:i<n
  ·have ai:(i:Int)<(n:Int):=by omega
   have ad:X2.length=n-i:=by rw[I,List.length_append] at hX;omega
   have ae:Z.length=n-i:=by rw[J,List.length_append] at hY;omega
   obtain⟨x,K,rfl⟩:∃x l,X2=x::l:=by cases X2 with |nil=>simp at ad;omega|cons x l=>exact⟨x,l,rfl⟩
   obtain⟨y,O,rfl⟩:∃x l,Z=x::l:=by cases Z with |nil=>simp at ae;omega|cons x l=>exact⟨x,l,rfl⟩
   simp only[List.length_cons] at ad ae;obtain⟨F,aE⟩:∃q,q=a+i:=⟨_,rfl⟩;obtain⟨H,aF⟩:∃q,q=b+i:=⟨_,rfl⟩;have ah:(P++(D++(x::K++(M++(E++(y::O++S)))))).toArray.size=N:=by simp;omega
   obtain⟨dk,V⟩:∃q,q=(P++(D++(x::K++(M++(E++(y::O++S)))))).toArray:=⟨_,rfl⟩;have gx:dk[F]! =x:=by rw[V];have:=arr_at (P++D) (K++(M++(E++(y::O++S)))) x F (by simp;omega);simpa using this
   have gy:dk[H]! =y:=by rw[V];have:=arr_at (P++(D++(x::K++(M++E)))) (O++S) y H (by simp;omega);simpa using this
   have gs:swp dk F H=(P++((D++[y])++(K++(M++((E++[x])++(O++S)))))).toArray:=by rw[V];have:=swp_list (P++D) (K++(M++E)) (O++S) x y F H (by simp;omega) (by simp;omega);simpa using this
   rw[<-V] at U ah;have ea:((a:Int)+(i:Int)).toNat=F:=by omega
   have pa:(0:Int)<=(a:Int)+(i:Int):=by omega
   have ba:(a:Int)+(i:Int)<(N:Int):=by omega
   have ra:IntKind.i64.wrap ((a:Int)+(i:Int))=(a:Int)+(i:Int):=by rw[IntKind.wrap_i64];omega
   have ec:((b:Int)+(i:Int)).toNat=H:=by omega
   have pc:(0:Int)<=(b:Int)+(i:Int):=by omega
   have bc:(b:Int)+(i:Int)<(N:Int):=by omega
   have rc:IntKind.i64.wrap ((b:Int)+(i:Int))=(b:Int)+(i:Int):=by rw[IntKind.wrap_i64];omega
   have S3:Aside (SW enc w0 blk h (swp dk F H) ((wr.setCell ⟨blk,h+F,none⟩ (enc y)).setCell ⟨blk,h+H,none⟩ (enc x)).drew):=by
    have:=U.out.swapped R F H (by omega) (by omega);rw[gx,gy] at this;exact this
   have ca:=U.out.c1 R (by omega) F (by omega);have cb:=U.out.c1 R (by omega) H (by omega);have fa:=U.out.f1 R (by omega) F (by omega);have fb:=U.out.f1 R (by omega) H (by omega);obtain⟨u,cc⟩:=U.out.c2 R (by omega) F H (by omega) (by omega) (enc y);rw[gx] at ca;rw[gy] at cb;have GS:Aside (swp dk F H=(P++((D++[y])++(K++(M++((E++[x])++(O++S)))))).toArray):=gs;have ab:Aside (X=E++x::K/\Y=D++y::O/\E.length=i/\D.length=i):=⟨I,J,h1,h2⟩;have HB:Aside (b=a+n+M.length):=hb;clear U gx gy gs V I J h1 h2 ah ad ae aE aF hb ha hX hY hlen';go_wp2_with fail
   go_big_region_o
   clear ca cb cc fa fb;generalize ((wr.setCell ⟨blk,h+F,none⟩ (enc y)).setCell ⟨blk,h+H,none⟩ (enc x)).drew=w3 at S3⊢;clear ea ec;go_wp2
   go_roundg (gk-1)
   case measure=>omega
   case rel=>exact⟨i+1,E++[x],K,D++[y],O,by go_num,by omega,by omega,by rw[ab.out.1];simp,by rw[ab.out.2.1];simp,by simp[ab.out.2.2.1],by simp[ab.out.2.2.2],by have:=S3.out;rw[GS.out] at this;exact this⟩
  ·have ai:¬((i:Int)<(n:Int)):=by omega
   have ap:X2=[]:=by rw[I,List.length_append] at hX;exact List.length_eq_zero_iff.1 (by omega)
   have av:Z=[]:=by rw[J,List.length_append] at hY;exact List.length_eq_zero_iff.1 (by omega)
   subst ap av;simp only[List.append_nil] at I J;subst I J;go_wp2
   go_end0
   refine⟨rfl,?_⟩;simpa using U.out
end Stb
end Go.Proofs.YtjlgejennghhlaaGreatDoor
namespace Go.Proofs.YtjlgejennghhlaaGreatDoor
namespace Stb
open Go.Shelf Go.RowKit Go.Lib Go.Sort
variable {α:Type} [Inhabited α]
omit [Inhabited α] in
theorem split_at (l:List α) (k:Nat) (h:k<=l.length):∃l1 l2,l=l1++l2/\l1.length=k:=⟨l.take k,l.drop k,(List.take_append_drop _ _).symm,by rw[List.length_take];omega⟩
theorem rotate_any (enc:α->Value) (cv:Value) (blk h al a m b N:Nat) (P X Y S:List α) (d0:Array α) (U w:World) (R:Row1 enc U blk h d0) (hN:d0.size=N) (am:(P++(X++(Y++S))).length=N) (ha:P.length=a) (hX:X.length+a=m) (hY:Y.length+m=b) (aC:0<X.length) (aB:0<Y.length) (aH:N<4611686018427387904)
 (S0:SW enc U blk h (P++(X++(Y++S))).toArray w):
 Calls Tryz.prog 213 #[.slice (some ⟨blk,h,none⟩) N al,.int .i64 a,.int .i64 m,.int .i64 b,cv] w fun e w'=>e=.returned (.tuple #[])/\SW enc U blk h (P++(Y++(X++S))).toArray w':=by
 have HS:Aside (SW enc U blk h (P++(X++(Y++S))).toArray w):=S0;have hlen':P.length+(X.length+(Y.length+S.length))=N:=by simpa using am
 have ai:Aside (∀(V:World) (p q k:Nat) (A B M C D:List α),(A++(B++(M++(C++D)))).length=N->A.length=p->B.length=k->C.length=k->q=p+k+M.length->SW enc U blk h (A++(B++(M++(C++D)))).toArray V->Calls Tryz.prog 221 #[.slice (some ⟨blk,h,none⟩) N al,.int .i64 p,.int .i64 q,.int .i64 k,cv] V fun e w'=>e=.returned (.tuple #[])/\SW enc U blk h (A++(C++(M++(B++D)))).toArray w'):=
  fun V p q k A B M C D O K h3 J h5 Z=>swapRange_any enc cv blk h al p q k N A B M C D d0 U V R hN O K h3 J h5 aH Z
 have aU:m<=N:=by omega
 have aV:b<=N:=by omega
 have aR:a<m:=by omega
 have aT:m<b:=by omega
 obtain⟨xl,aq⟩:∃q,q=X.length:=⟨_,rfl⟩;obtain⟨yl,av⟩:∃q,q=Y.length:=⟨_,rfl⟩;have aw:m=a+xl:=by omega
 have ax:b=m+yl:=by omega
 have HL:Aside (P.length=a/\X.length=xl/\Y.length=yl/\P.length+(X.length+(Y.length+S.length))=N):=⟨ha,aq.symm,av.symm,hlen'⟩;have aK:0<xl:=by omega
 have aN:0<yl:=by omega
 have ay:Aside (m=a+xl/\b=m+yl):=⟨aw,ax⟩;clear S0 am hlen' R hN ha hX hY aC aB aq av;have e1:(m:Int)-(a:Int)=(xl:Int):=by omega
 have e2:(b:Int)-(m:Int)=(yl:Int):=by omega
 clear aw ax;go_enter Tryz.func213,Tryz.ntmps213;go_wp2
 go_loopg [10,11] (xl+yl) (fun g1 vi vj wr=>∃(i j:Nat) (y I F E:List α),vi=.int .i64 i/\vj=.int .i64 j/\0<i/\0<j/\i<=m/\m+j<=N/\i+j<=g1/\Aside (I.length=i/\F.length=j/\y.length+i=m/\(y++(I++(F++E))).length=N/\y++(F++(I++E))=P++(Y++(X++S))/\SW enc U blk h (y++(I++(F++E))).toArray wr))
 case atStart=>exact⟨xl,yl,P,X,Y,S,by first|rfl|(congr 1),by first|rfl|(congr 1),aK,aN,by omega,by have:=ay.out;omega,by omega,⟨HL.out.2.1,HL.out.2.2.1,by rw[HL.out.1];have:=ay.out;omega,by simpa using HL.out.2.2.2,rfl,HS.out⟩⟩
 case round=>
  clear HS HL;obtain⟨i,j,y,I,F,E,rfl,rfl,aG,aJ,aF,aM,hg,H⟩:=hrel
  by_cases hij:i=j
  ·subst hij;go_wp2_with (go_at_call 221;fail);rw[show(m:Int)-(i:Int)=((m-i:Nat):Int) by omega];obtain⟨O,K,h3,J,h5,Z⟩:=H.out;refine(ai.out wr (m-i) m i y I [] F E (by simpa using J) (by omega) O K (by simp;omega) (by simpa using Z)).mono ?_;rintro e w' ⟨rfl,hS⟩;rw[List.nil_append,h5] at hS;have HF:Aside _:=hS;clear hS O K h3 J h5 Z H;go_wp2
   go_end0
   exact⟨rfl,HF.out⟩
  ·by_cases aS:j<i
   ·have hgt':(j:Int)<(i:Int):=by omega
    have aD:¬((i:Int)=(j:Int)):=by omega
    go_wp2_with (go_at_call 221;fail);rw[show(m:Int)-(i:Int)=((m-i:Nat):Int) by omega];obtain⟨O,K,h3,J,h5,Z⟩:=H.out;obtain⟨X1,X2,rfl,ao⟩:=split_at I j (by omega);have ar:X2.length=i-j:=by rw[List.length_append] at O;omega
    refine(ai.out wr (m-i) m j y X1 X2 F E (by simpa using J) (by omega) ao K (by omega) (by simpa using Z)).mono ?_;rintro e w' ⟨rfl,hS⟩;have HF:Aside (X2.length=i-j/\X1.length=j/\(y++F).length+(i-j)=m/\((y++F)++(X2++(X1++E))).length=N/\(y++F)++(X1++(X2++E))=P++(Y++(X++S))/\SW enc U blk h ((y++F)++(X2++(X1++E))).toArray w'):=⟨ar,ao,by rw[List.length_append];omega,by simp only[List.length_append] at J⊢;omega,by rw[<-h5];simp,by simpa using hS⟩;clear hS O K h3 J h5 Z H ao ar;go_wp2
    go_roundg (i+j-j)
    case measure=>omega
    case rel=>exact⟨i-j,j,y++F,X2,X1,E,by first|go_num|(congr 1;omega),rfl,by omega,aJ,by omega,aM,by omega,HF⟩
   ·have hgt':¬(j:Int)<(i:Int):=by omega
    have aD:¬((i:Int)=(j:Int)):=by omega
    go_wp2_with (go_at_call 221;fail);rw[show(m:Int)-(i:Int)=((m-i:Nat):Int) by omega,show(m:Int)+(j:Int)-(i:Int)=((m+j-i:Nat):Int) by omega];obtain⟨O,K,h3,J,h5,Z⟩:=H.out;obtain⟨Y1,Y2,rfl,au⟩:=split_at F (j-i) (by omega);have aj:Y2.length=i:=by rw[List.length_append] at K;omega
    refine(ai.out wr (m-i) (m+j-i) i y I Y1 Y2 E (by simpa using J) (by omega) O aj (by omega) (by simpa using Z)).mono ?_;rintro e w' ⟨rfl,hS⟩;have HF:Aside (Y2.length=i/\Y1.length=j-i/\y.length+i=m/\(y++(Y2++(Y1++(I++E)))).length=N/\y++(Y1++(Y2++(I++E)))=P++(Y++(X++S))/\SW enc U blk h (y++(Y2++(Y1++(I++E)))).toArray w'):=⟨aj,au,h3,by simp only[List.length_append] at J⊢;omega,by rw[<-h5];simp,hS⟩;clear hS O K h3 J h5 Z H au aj;go_wp2
    go_roundg (i+j-i)
    case measure=>omega
    case rel=>exact⟨i,j-i,y,Y2,Y1,I++E,rfl,by first|go_num|(congr 1;omega),aG,by omega,aF,by omega,by omega,HF⟩
end Stb
end Go.Proofs.YtjlgejennghhlaaGreatDoor
namespace Go.Proofs.YtjlgejennghhlaaGreatDoor
namespace Stb
open Go.Shelf Go.RowKit Go.Lib Go.Sort
variable {α:Type} [Inhabited α]
omit [Inhabited α] in
theorem sorted_short (lt:α->α->Bool) (l:List α) (h:l.length<=1):Sorted lt l:=by
 match l,h with
 |[],_=>exact List.Pairwise.nil
 |[x],_=>exact List.pairwise_singleton _ _
theorem insertion_any (enc:α->Value) (E:α->α->Int) (g:Nat) (cb:Array Value) (blk h a1 a b N:Nat) (P M S:List α) (d0:Array α) (H w:World) (eg:∀args w,(callFunc g args).run Tryz.prog w=.ok (.enter g args) w) (am:CmpLays1 Tryz.prog g cb enc E blk h d0.size H) (ho:Ord (ltOf E)) (R:Row1 enc H blk h d0) (hN:d0.size=N) (aj:(P++(M++S)).length=N) (ha:P.length=a) (hb:b=a+M.length) (bq:N<4611686018427387904)
 (S0:SW enc H blk h (P++(M++S)).toArray w):
 Calls Tryz.prog 201 #[.slice (some ⟨blk,h,none⟩) N a1,.int .i64 a,.int .i64 b,.func (.func g) #[] cb] w fun e w'=>e=.returned (.tuple #[])/\∃M',Sorted (ltOf E) M'/\Same (ltOf E) M M'/\SW enc H blk h (P++(M'++S)).toArray w':=by
 have a5:Tryz.prog.follows .mixedOrders=true:=by kernel_rfl
 have aK:=R.hO.cells;simp only[Value.cells] at aK;have bs:=R.hO.store Tryz.prog;have HC:Aside _:=am;have hlen':P.length+(M.length+S.length)=N:=by simpa using aj
 have bv:b<=N:=by omega
 have bB:a<=b:=by omega
 have HS:Aside (∃A,Sorted (ltOf E) A/\Same (ltOf E) (M.take (a+1-a)) A/\SW enc H blk h (P++(A++(M.drop (a+1-a)++S))).toArray w):=⟨M.take (a+1-a),sorted_short _ _ (by rw[List.length_take];omega),Same.refl _ _,by rw[<-List.append_assoc (M.take _),List.take_append_drop];exact S0⟩;have HL:Aside (P.length=a/\b=a+M.length/\P.length+(M.length+S.length)=N):=⟨ha,hb,hlen'⟩;have ag:Aside (Ord (ltOf E)):=ho;clear S0 aj am ha hb hlen' ho;go_enter Tryz.func201,Tryz.ntmps201;go_wp2
 go_loopg [8] (b-a) (fun g1 vi wr=>∃(i:Nat),vi=.int .i64 i/\a<i/\i<=b+1/\b+1-i<=g1+1/\Aside (∃A,Sorted (ltOf E) A/\Same (ltOf E) (M.take (i-a)) A/\SW enc H blk h (P++(A++(M.drop (i-a)++S))).toArray wr))
 case atStart=>exact⟨a+1,by go_num,by omega,by omega,by omega,HS⟩
 case round=>
  clear HS;obtain⟨i,rfl,br,bw,bt,H1⟩:=hrel
  by_cases hlt:i<b
  ·have aG:(i:Int)<(b:Int):=by omega
   obtain⟨A,x,B,HA⟩:∃A x B,Aside (Sorted (ltOf E) A/\Same (ltOf E) (M.take (i-a)) A/\A.length=i-a/\M.take (i+1-a)=M.take (i-a)++[x]/\M.drop (i+1-a)=B/\P.length+(A.length+1+B.length+S.length)=N/\SW enc H blk h (P++(A++x::([]++(B++S)))).toArray wr):=by
    obtain⟨A,h1,h2,h3⟩:=H1.out;obtain⟨k1,k2,k3⟩:=HL.out;have hk:i-a<M.length:=by omega
    have ax:A.length=i-a:=by rw[<-h2.len ag.out,List.length_take];omega
    refine⟨A,M[i-a],M.drop (i+1-a),h1,h2,ax,?_,rfl,?_,?_⟩
    ·rw[show i+1-a=i-a+1 by omega,List.take_succ_eq_append_getElem hk]
    ·rw[ax,List.length_drop];omega
    ·rw[List.drop_eq_getElem_cons hk,show i-a+1=i+1-a by omega] at h3;simpa using h3
   clear H1;go_wp2
   go_loopg [9] i (fun g2 vj wr2=>∃(j:Nat) (F C:List α),vj=.int .i64 j/\a<=j/\j<=i/\j<=g2/\Aside (A=F++C/\F.length=j-a/\(∀c∈C,ltOf E x c=true)/\SW enc H blk h (P++(F++x::(C++(B++S)))).toArray wr2))
   case atStart=>exact⟨i,A,[],rfl,by omega,Nat.le_refl _,Nat.le_refl _,by simp,HA.out.2.2.1,by simp,HA.out.2.2.2.2.2.2⟩
   case round=>
    obtain⟨j,F,C,rfl,bA,bx,bC,HJ⟩:=hrel;have ay:Aside (∀V:World,(∀y∈F,ltOf E x y=false)->SW enc H blk h (P++(F++x::(C++(B++S)))).toArray V->∃A,Sorted (ltOf E) A/\Same (ltOf E) (M.take (i+1-a)) A/\SW enc H blk h (P++(A++(M.drop (i+1-a)++S))).toArray V):=by
     intro V hy hV;obtain⟨k1,k2,k3,k4,k5,k6,k7⟩:=HA.out;obtain⟨q1,q2,q3,q4⟩:=HJ.out;obtain⟨p1,p2⟩:=put_one ag.out (q1▸k1) q3 hy;refine⟨F++x::C,p1,?_,by rw[k5];simpa using hV⟩;rw[k4];exact((k2.app (Same.refl _ [x])).trans (by rw[q1];exact p2))
    by_cases hja:a<j
    ·have aI:(a:Int)<(j:Int):=by omega
     obtain⟨D,bz⟩:∃q,q+1=j:=⟨j-1,by omega⟩;have bp:(j:Int)=(D:Int)+1:=by omega
     have a8:decide ((D:Int)+1>(a:Int))=true:=decide_eq_true (by omega);have hjaz':(a:Int)<(D:Int)+1:=by omega
     obtain⟨A2,y,Z⟩:∃A2 y,Aside (F=A2++[y]/\A2.length=D-a):=by
      obtain⟨q1,q2,q3,q4⟩:=HJ.out;have aw:F≠[]:=by intro e;rw[e] at q2;simp at q2;omega
      exact⟨F.dropLast,F.getLast aw,(List.dropLast_concat_getLast aw).symm,by rw[List.length_dropLast];omega⟩
     obtain⟨K,O⟩:∃q,q=(P++(F++x::(C++(B++S)))).toArray:=⟨_,rfl⟩;have bD:j<N:=by omega
     have bu:K.size=N:=by
      obtain⟨q1,q2,q3,q4⟩:=HJ.out;obtain⟨k1,k2,k3,k4,k5,k6,k7⟩:=HA.out;rw[O];rw[q1,List.length_append] at k6;simp;omega
     have gx:K[j]! =x:=by
      rw[O];have:=arr_at (P++F) (C++(B++S)) x j (by rw[List.length_append,HL.out.1,HJ.out.2.1];omega);simpa using this
     have gy:K[D]! =y:=by
      rw[O,Z.out.1];have:=arr_at (P++A2) (x::(C++(B++S))) y D (by rw[List.length_append,HL.out.1,Z.out.2];omega);simpa using this
     have gs:swp K j D=(P++(A2++x::((y::C)++(B++S)))).toArray:=by
      rw[O,Z.out.1];have:=swp_list' (P++A2) [] (C++(B++S)) y x D j (by rw[List.length_append,HL.out.1,Z.out.2];omega) (by rw[List.length_append,HL.out.1,Z.out.2];simp;omega);simpa using this
     have SJ:Aside (SW enc H blk h K wr):=by rw[O];exact HJ.out.2.2.2
     have GS:Aside (swp K j D=(P++(A2++x::((y::C)++(B++S)))).toArray):=gs;have aX:Aside (K=(P++(F++x::(C++(B++S)))).toArray):=O;have al:Aside (A=F++C/\∀c∈C,ltOf E x c=true):=⟨HJ.out.1,HJ.out.2.2.1⟩;clear gs O HJ;obtain⟨iN,af⟩:∃q,q=j:=⟨_,rfl⟩;obtain⟨jN,U⟩:∃q,q=D:=⟨_,rfl⟩;have ea:((D:Int)+1).toNat=iN:=by omega
     have pa:(0:Int)<=(D:Int)+1:=by omega
     have ba:(D:Int)+1<(N:Int):=by omega
     have ra:IntKind.i64.wrap ((D:Int)+1)=(D:Int)+1:=by rw[IntKind.wrap_i64];omega
     have ec:((D:Int)).toNat=jN:=by omega
     have pc:(0:Int)<=(D:Int):=by omega
     have bc:(D:Int)<(N:Int):=by omega
     have rc:IntKind.i64.wrap ((D:Int))=(D:Int):=by rw[IntKind.wrap_i64];omega
     have la:=SJ.out.cl R (by omega) j (by omega);have lb:=SJ.out.cl R (by omega) D (by omega);rw[gx,<-af] at la;rw[gy,<-U] at lb;have hc:=SJ.out.cmp HC.out (by omega) x y
     cases hlv:ltOf E x y with
     |true=>
      have hv:E x y<0:=of_decide_eq_true hlv;have hd:decide (E x y<0)=true:=decide_eq_true hv;have aq:Aside (ltOf E x y=true):=hlv;have J:Aside (iN=j/\jN=D/\K[j]! =x/\K[D]! =y):=⟨af,U,gx,gy⟩;clear hlv af U gx gy;go_wp2_with fail
      go_quiet_grown (first|(go_at_fn g;refine Calls.grown_of (hc _ _)))
      have I:Aside (SW enc H blk h K (grow (wr.drewN nq) osq)):=SJ.out.grown nq osq;clear la lb hc SJ;generalize grow (wr.drewN nq) osq=w2 at I⊢;clear nq osq;go_wp2_with fail;have S3:Aside (SW enc H blk h (swp K j D) ((w2.setCell ⟨blk,h+iN,none⟩ (enc y)).setCell ⟨blk,h+jN,none⟩ (enc x)).drew):=by
       obtain⟨z1,z2,z3,z4⟩:=J.out;have:=I.out.swapped R j D (by omega) (by omega);rw[z3,z4] at this;rw[z1,z2];exact this
      have ca:w2.cell? ⟨blk,h+iN,none⟩=some (enc x):=by have:=I.out.c1 R (by omega) j (by omega);rw[J.out.2.2.1,<-J.out.1] at this;exact this
      have cb':w2.cell? ⟨blk,h+jN,none⟩=some (enc y):=by have:=I.out.c1 R (by omega) D (by omega);rw[J.out.2.2.2,<-J.out.2.1] at this;exact this
      have fa:w2.frozen? ⟨blk,h+iN,none⟩=false:=by have:=I.out.f1 R (by omega) j (by omega);rw[<-J.out.1] at this;exact this
      have fb:w2.frozen? ⟨blk,h+jN,none⟩=false:=by have:=I.out.f1 R (by omega) D (by omega);rw[<-J.out.2.1] at this;exact this
      obtain⟨u,cc⟩:∃u,(w2.setCell ⟨blk,h+iN,none⟩ (enc y)).cell? ⟨blk,h+jN,none⟩=some u:=by have:=I.out.c2 R (by omega) j D (by omega) (by omega) (enc y);rw[<-J.out.1,<-J.out.2.1] at this;exact this
      clear I;go_wp2_with fail
      go_big_region_o
      clear ca cb' cc fa fb;generalize ((w2.setCell ⟨blk,h+iN,none⟩ (enc y)).setCell ⟨blk,h+jN,none⟩ (enc x)).drew=w3 at S3⊢;clear ea ec;go_wp2
      go_roundg (j-1)
      case measure=>omega
      case rel=>exact⟨j-1,A2,y::C,by first|rfl|go_num|(congr 1;omega),by omega,by omega,Nat.le_refl _,by rw[al.out.1,Z.out.1];simp,by rw[Z.out.2];omega,fun c hc=>(by rcases List.mem_cons.1 hc with rfl|hc;exact aq.out;exact al.out.2 c hc),by have:=S3.out;rw[GS.out] at this;exact this⟩
     |false=>
      have hv:¬E x y<0:=of_decide_eq_false hlv;have hd:decide (E x y<0)=false:=decide_eq_false hv;have aq:Aside (ltOf E x y=false):=hlv;clear hlv af U gx gy;go_wp2_with fail
      go_quiet_grown (first|(go_at_fn g;refine Calls.grown_of (hc _ _)))
      have I:Aside (SW enc H blk h K (grow (wr.drewN nq) osq)):=SJ.out.grown nq osq;clear la lb hc SJ;generalize grow (wr.drewN nq) osq=w2 at I⊢;clear nq osq ea ec;go_wp2
      go_roundg (b-(i+1))
      case measure=>omega
      case rel=>
       refine⟨i+1,by go_num,by omega,by omega,by omega,ay.out _ ?_ (by have:=I.out;rw[aX.out] at this;exact this)⟩;intro z hz;have aW:Sorted (ltOf E) (A2++[y]):=by
        have:=HA.out.1;rw[al.out.1,Z.out.1] at this;exact(Sorted.app.1 this).1
       rw[Z.out.1] at hz;exact ag.out.ntrans _ _ _ aq.out (sorted_last ag.out aW z hz)
    ·have aI:decide ((j:Int)>(a:Int))=false:=decide_eq_false (by omega);have hjaz':¬(a:Int)<(j:Int):=by omega
     go_wp2_with fail
     go_big_region_o
     have I:Aside (SW enc H blk h (P++(F++x::(C++(B++S)))).toArray wr.drew):=HJ.out.2.2.2.drew;have aN:Aside (F=[]):=List.length_eq_zero_iff.1 (by rw[HJ.out.2.1];omega);clear HJ;generalize wr.drew=w2 at I⊢;go_wp2
     go_roundg (b-(i+1))
     case measure=>omega
     case rel=>exact⟨i+1,by go_num,by omega,by omega,by omega,ay.out _ (by rw[aN.out];intro y hy;simp at hy) I.out⟩
  ·have aG:¬(i:Int)<(b:Int):=by omega
   go_wp2
   go_end0
   obtain⟨A,h1,h2,h3⟩:=H1.out;obtain⟨k1,k2,k3⟩:=HL.out;rw[List.drop_eq_nil_of_le (by omega)] at h3;rw[List.take_of_length_le (by omega)] at h2;exact⟨rfl,A,h1,h2,by simpa using h3⟩
end Stb
end Go.Proofs.YtjlgejennghhlaaGreatDoor
