import Derived.Shelf.Strings.Builder1
import Derived.Shelf.Strings.Builder2
import Derived.Shelf.Strings.OnBuilder
import Derived.Shelf.Small.Strs
import Derived.Shelf.Strings.BuilderF
import Derived.Shelf.Strings.BuilderK
import Derived.Shelf.Strconv.Atoi
import Derived.Shelf.Strconv.Itoa0
import Derived.Shelf.Strconv.Itoa1
import Derived.Shelf.LaysM
import Derived.Shelf.Strconv.Itoa2
import Derived.Shelf.Strconv.Itoa3
import Derived.Shelf.Strconv.AtoiErrFast
import Derived.Shelf.Strconv.ParseIntEmpty
import Derived.Shelf.Strconv.AtoiFail
import Derived.Shelf.Strconv.Clone
import Derived.Shelf.Strconv.SyntaxError
import Derived.Shelf.LaysC
import Derived.Shelf.Strconv.ToError
import Derived.Shelf.Strconv.Lower
import Derived.Shelf.Strconv.ParseUint10
import Derived.Shelf.Strconv.ParseUint10Empty
import Derived.Shelf.Strconv.ParseUint10Any
import Derived.Shelf.Strconv.ParseInt10
import Derived.Shelf.Strconv.AtoiLong
import Derived.Shelf.Strconv.AtoiInnerAll
import Derived.Shelf.Strconv.RangeError
import Derived.Shelf.Strconv.ToErrorRange
import Derived.Shelf.Strconv.AtoiAll
import Derived.Shelf.Strconv.ErrVarAll
import Derived.Shelf.Strings.Search1
import Derived.Shelf.Strings.Search2
import Derived.Shelf.Strings.Search3
import Derived.Shelf.Strings.Cut
import Derived.Shelf.Strings.Count
import Derived.Shelf.Strings.Shaped
import Derived.Shelf.Strings.Prefix
import Derived.Shelf.Strings.Split
import Derived.Shelf.Strings.SplitShaped
import Derived.Shelf.Unicode.DecodeSlow
import Derived.Shelf.Slices.Turned
import Derived.Ground.Names2Prog
import Derived.Shelf.Slices.Delete
import Derived.Shelf.Slices.Cells
import Derived.Shelf.Slices.Empties
import Derived.Test.YtjlgejennghhlaaGreatDoorProg
import Derived.Test.YtjlgejennghhlaaGreatDoorR01
import Derived.Test.YtjlgejennghhlaaGreatDoorR12
set_option linter.unusedSimpArgs false
set_option linter.unusedVariables false
set_option linter.unusedSectionVars false
set_option maxRecDepth 1000000
set_option maxHeartbeats 16000000
namespace Go.Proofs.YtjlgejennghhlaaGreatDoor
open Go.RowKit
theorem QnZ (b o c n:Nat) (rs:List (List Vl)) (w:World) (O:rs.length=n) (h8:n<=100) (U:b<w.heap.size) (Z:QdD w b o rs):
 Calls Tryz.prog 73 #[.slice (some ⟨b,o,none⟩) n c,.func (.func 41) #[] #[]] w fun e w'=>∃r:Int,e=.returned (.int .i64 r)/\foundI r (rs.any QeY)/\Below w.heap.size w w':=by
 have K:=Hk O;clear O;go_enter Tryz.func73,Tryz.ntmps73;go_wp2;go_loopw [8] (fun i wr=>∃k:Nat,k<=n/\i=.int .i64 k/\(rs.take k).any QeY=false/\Below w.heap.size w wr) (fun i _=>n-(intOf i).toNat)
 case atStart=>exact⟨0,Nat.zero_le _,rfl,rfl,Below.refl _ _⟩
 case round=>
  obtain⟨k,hk,rfl,F,h⟩:=hrel;have N:=Hk F;clear F
  by_cases hlt:k<n
  ·have y:k<rs.length:=by have:=K.out;omega
   obtain⟨u,M,D⟩:=Z k y;have hu':=cK h U M;have I:=Qkw u rs[k] wr (D.below h);obtain⟨a3,c3,rfl,-,-⟩:=D;have H:=Hk I;clear I M
   cases hp:QeY rs[k]
   all_goals have J:=Hk hp
   all_goals rw[hp] at H
   ·go_wp2_with (go_at_call 41;refine H.out.mono ?_;rintro e V ⟨rfl,E⟩);go_roundw
    case rel=>exact⟨k+1,by omega,by go_num,any_step y N.out J.out,h.trans (E.mono h.size)⟩
    case measure=>simp[intOf];omega
   ·go_wp2_with (go_at_call 41;refine H.out.mono ?_;rintro e V ⟨rfl,E⟩);go_ret;exact⟨k,rfl,⟨by omega,by omega,by rw[any_hit y J.out];simp⟩,h.trans (E.mono h.size)⟩
  ·go_wp2;go_ret;exact⟨-1,rfl,⟨by omega,by omega,by have:=N.out;rw[List.take_of_length_le (by have:=K.out;omega)] at this;rw[this];rfl⟩,h⟩
theorem Qn0 (a:Option Addr) (c:Nat) (f:Value) (w:World):
 Calls Tryz.prog 73 #[.slice a 0 c,f] w fun e w'=>∃r:Int,e=.returned (.int .i64 r)/\foundI r false/\Below w.heap.size w w':=by
 go_enter Tryz.func73,Tryz.ntmps73;go_wp2;go_loopw [8] (fun i wr=>i=.int .i64 0/\wr=w) (fun i _=>0)
 case atStart=>exact⟨rfl,rfl⟩
 case round=>
  obtain⟨rfl,rfl⟩:=hrel;go_wp2;go_ret;exact⟨-1,rfl,⟨by omega,by omega,rfl⟩,Below.refl _ _⟩
theorem Qpz (v:Value) (rs:List (List Vl)) (w:World) (h:QaG w v rs) (E:rs.length<=65):
 Calls Tryz.prog 73 #[v,.func (.func 41) #[] #[]] w fun e w'=>∃r:Int,e=.returned (.int .i64 r)/\foundI r (rs.any QeY)/\Below w.heap.size w w':=by
 obtain⟨a,c,rfl,rfl|⟨b,o,rfl,D,y⟩⟩:=h
 ·exact Qn0 _ _ _ _
 ·exact QnZ b o c rs.length rs w rfl (by omega) D y
theorem Qn1 (v:Value) (rs:List (List Vl)) (w:World) (h:QaG w v rs) (E:rs.length<=65):
 Calls Tryz.prog 40 #[v,.func (.func 41) #[] #[]] w fun e w'=>e=.returned (.bool (rs.any QeY))/\Below w.heap.size w w':=by
 have F:=Hk (Qpz v rs w h E);obtain⟨a,c,rfl,-⟩:=h;go_enter Tryz.func40,Tryz.ntmps40;go_wp2_with (go_at_call 73;refine F.out.mono ?_;rintro e I ⟨r,rfl,y,D⟩;have H:=Hk y;clear y)
 all_goals go_ret
 all_goals exact⟨ret_bool (by rw[<-H.out.2.2]),D⟩
theorem Qkx {cs:List Cl} {rs:List (List Vl)} (h:8<cs.length):Qb5 cs rs=false:=by
 unfold Qb5;rw[decide_eq_true h];rfl
theorem Qky {cs:List Cl} {rs:List (List Vl)} (h:65<rs.length):Qb5 cs rs=false:=by
 unfold Qb5;rw[decide_eq_true h];simp
theorem QiV {cs:List Cl} {rs:List (List Vl)} (h:cs.any QfB=true):Qb5 cs rs=false:=by
 unfold Qb5;rw[h];simp
theorem Qkz {cs:List Cl} {rs:List (List Vl)} (D:cs.length<=8) (y:rs.length<=65) (h:cs.any QfB=false):Qb5 cs rs= !(rs.any QeY):=by
 unfold Qb5;rw[decide_eq_false (by omega),decide_eq_false (by omega),h];rfl
theorem QlS (H F:Value) (cs:List Cl) (rs:List (List Vl)) (w:World) (K:Qax w H cs) (J:QaG w F rs):
 Calls Tryz.prog 16 #[.agg #[H,F]] w fun e w'=>e=.returned (.bool (Qb5 cs rs))/\Below w.heap.size w w':=by
 have y:=K.below (Qaa w (.cells #[H,F] 54));have D:=J.below (Qaa w (.cells #[H,F] 54))
 by_cases h8:cs.length<=8
 ·by_cases h65:rs.length<=65
  ·have I:=QnV H cs _ y h8;have n8:¬((8:Int)<(cs.length:Int)):=by omega
   have aa:¬((65:Int)<(rs.length:Int)):=by omega
   cases g:cs.any QfB
   ·rw[g] at I;have O:=Hk I;have HR:=Hk (fun M (hb:Below (w.alloc (.cells #[H,F] 54)).heap.size (w.alloc (.cells #[H,F] 54)) M)=>Qn1 F rs M (D.below hb) h65);have E:=Hk (Qkz h8 h65 g);clear I g y D;obtain⟨a,c,rfl,-,-,-⟩:=K;obtain⟨U,N,rfl,-⟩:=J;go_enter Tryz.func16,Tryz.ntmps16;go_wp2_with (first|(go_at_call 38;refine O.out.mono ?_;rintro e M ⟨rfl,h⟩;obtain⟨V,Z⟩:=QaQ h)|(go_at_call 40;refine(HR.out _ h).mono ?_;rintro e w3 ⟨rfl,ac⟩))
    all_goals go_ret
    all_goals exact⟨ret_bool E.out.symm,(Qaa _ _).trans ((h.mono (by simp)).trans (ac.mono (by have:=h.size;simp at this;omega)))⟩
   ·rw[g] at I;have O:=Hk I;have E:=Hk (QiV (rs:=rs) g);clear I g y D;obtain⟨a,c,rfl,-,-,-⟩:=K;obtain⟨U,N,rfl,-⟩:=J;go_enter Tryz.func16,Tryz.ntmps16;go_wp2_with (go_at_call 38;refine O.out.mono ?_;rintro e M ⟨rfl,h⟩;obtain⟨V,Z⟩:=QaQ h)
    all_goals go_ret
    all_goals exact⟨ret_bool E.out.symm,(Qaa _ _).trans (h.mono (by simp))⟩
  ·have E:=Hk (Qky (cs:=cs) (rs:=rs) (by omega));have n8:¬((8:Int)<(cs.length:Int)):=by omega
   have aa:(65:Int)<(rs.length:Int):=by omega
   clear y D;obtain⟨a,c,rfl,-,-,-⟩:=K;obtain⟨U,N,rfl,-⟩:=J;go_enter Tryz.func16,Tryz.ntmps16;go_wp2
   all_goals go_ret
   all_goals exact⟨ret_bool E.out.symm,Qaa _ _⟩
 ·have E:=Hk (Qkx (cs:=cs) (rs:=rs) (by omega));have n8:(8:Int)<(cs.length:Int):=by omega
  clear y D;obtain⟨a,c,rfl,-,-,-⟩:=K;obtain⟨U,N,rfl,-⟩:=J;go_enter Tryz.func16,Tryz.ntmps16;go_wp2
  all_goals go_ret
  all_goals exact⟨ret_bool E.out.symm,Qaa _ _⟩
theorem Qpc (b o c y D K n:Nat) (cs:List Cl) (w:World) (J:cs.length=n) (h8:n<=100) (I:b<w.heap.size) (F:y<w.heap.size) (N:Qau w b o cs) (H:Qau w y D cs):
 Calls Tryz.prog 14 #[.slice (some ⟨b,o,none⟩) n c,.slice (some ⟨y,D,none⟩) n K] w fun e w'=>e=.returned (.bool true)/\Below w.heap.size w w':=by
 have M:=Hk J;clear J;go_enter Tryz.func14,Tryz.ntmps14;go_wp2;go_loopw [13] (fun i wr=>∃k:Nat,k<=n/\i=.int .i64 k/\Below w.heap.size w wr) (fun i _=>n-(intOf i).toNat)
 case atStart=>exact⟨0,Nat.zero_le _,rfl,Below.refl _ _⟩
 case round=>
  obtain⟨k,U,rfl,h⟩:=hrel
  by_cases hlt:k<n
  ·have E:k<cs.length:=by have:=M.out;omega
   obtain⟨c1,c2⟩:=N k E;have d1:=cK h I c1;have O:=cK h I c2;obtain⟨c3,c4⟩:=H k E;have V:=cK h F c3;have Z:=cK h F c4;clear c1 c2 c3 c4;go_wp2;go_quiet (fail);go_wp2;go_roundw
   case rel=>exact⟨k+1,by omega,by go_num,below_drewN h _⟩
   case measure=>simp[intOf];omega
  ·go_wp2;go_ret;exact⟨rfl,h⟩
theorem QlT (a h:Option Addr) (c y:Nat) (w:World):
 Calls Tryz.prog 14 #[.slice a 0 c,.slice h 0 y] w fun e w'=>e=.returned (.bool true)/\Below w.heap.size w w':=by
 go_enter Tryz.func14,Tryz.ntmps14;go_wp2;go_loopw [13] (fun i wr=>i=.int .i64 0/\wr=w) (fun i _=>0)
 case atStart=>exact⟨rfl,rfl⟩
 case round=>
  obtain⟨rfl,rfl⟩:=hrel;go_wp2;go_ret;exact⟨rfl,Below.refl _ _⟩
theorem Qpd (v D:Value) (cs:List Cl) (w:World) (h:Qax w v cs) (I:Qax w D cs) (U:cs.length<=60):
 Calls Tryz.prog 14 #[v,D] w fun e w'=>e=.returned (.bool true)/\Below w.heap.size w w':=by
 obtain⟨a,c,rfl,-,-,K⟩:=h;obtain⟨V,M,rfl,-,-,E⟩:=I;rcases K with rfl|⟨b,o,rfl,J,H⟩
 ·exact QlT _ _ _ _ _
 ·rcases E with rfl|⟨N,O,rfl,F,y⟩
  ·exact QlT _ _ _ _ _
  ·exact Qpc b o c N O M cs.length cs w rfl (by omega) J F H y
theorem Qqp (b o c y D N n:Nat) (F:List Vl) (w:World) (K:F.length=n) (h8:n<=100) (I:b<w.heap.size) (E:y<w.heap.size) (U:QaS w b o F) (J:QaS w y D F):
 Calls Tryz.prog 29 #[.slice (some ⟨b,o,none⟩) n c,.slice (some ⟨y,D,none⟩) n N] w fun e w'=>e=.returned (.bool true)/\Below w.heap.size w w':=by
 have O:=Hk K;clear K;go_enter Tryz.func29,Tryz.ntmps29;go_wp2;go_loopw [13] (fun i wr=>∃k:Nat,k<=n/\i=.int .i64 k/\Below w.heap.size w wr) (fun i _=>n-(intOf i).toNat)
 case atStart=>exact⟨0,Nat.zero_le _,rfl,Below.refl _ _⟩
 case round=>
  obtain⟨k,hk,rfl,h⟩:=hrel
  by_cases hlt:k<n
  ·have H:k<F.length:=by have:=O.out;omega
   obtain⟨c1,c2,c3⟩:=U k H;have d1:=cK h I c1;have V:=cK h I c2;have Z:=cK h I c3;obtain⟨c4,c5,M⟩:=J k H;have d4:=cK h E c4;have d5:=cK h E c5;have d6:=cK h E M;clear c1 c2 c3 c4 c5 M;go_wp2;go_quiet (fail);go_wp2;go_roundw
   case rel=>exact⟨k+1,by omega,by go_num,below_drewN h _⟩
   case measure=>simp[intOf];omega
  ·go_wp2;go_ret;exact⟨rfl,h⟩
theorem QlU (a h:Option Addr) (c y:Nat) (w:World):
 Calls Tryz.prog 29 #[.slice a 0 c,.slice h 0 y] w fun e w'=>e=.returned (.bool true)/\Below w.heap.size w w':=by
 go_enter Tryz.func29,Tryz.ntmps29;go_wp2;go_loopw [13] (fun i wr=>i=.int .i64 0/\wr=w) (fun i _=>0)
 case atStart=>exact⟨rfl,rfl⟩
 case round=>
  obtain⟨rfl,rfl⟩:=hrel;go_wp2;go_ret;exact⟨rfl,Below.refl _ _⟩
theorem Qqq (v E:Value) (y:List Vl) (w:World) (h:QcA w v y) (J:QcA w E y) (V:y.length<=60):
 Calls Tryz.prog 29 #[v,E] w fun e w'=>e=.returned (.bool true)/\Below w.heap.size w w':=by
 obtain⟨a,c,rfl,-,M⟩:=h;obtain⟨Z,N,rfl,-,F⟩:=J;rcases M with rfl|⟨b,o,rfl,K,I⟩
 ·exact QlU _ _ _ _ _
 ·rcases F with rfl|⟨O,U,rfl,H,D⟩
  ·exact QlU _ _ _ _ _
  ·exact Qqp b o c O U N y.length y w rfl (by omega) K H I D
theorem QlV (v D:Value) (y:List Vl) (w:World) (h:QcA w v y) (E:QcA w D y) (H:y.length<=60):
 Calls Tryz.prog 28 #[v,D] w fun e w'=>e=.returned (.bool true)/\Below w.heap.size w w':=by
 have I:=Hk (Qqq v D y w h E H);obtain⟨a,c,rfl,-,-⟩:=h;obtain⟨J,K,rfl,-,-⟩:=E;go_enter Tryz.func28,Tryz.ntmps28;go_wp2_with (go_at_call 29;refine I.out.mono ?_;rintro e M ⟨rfl,F⟩);go_ret;exact⟨rfl,F⟩
theorem Qqr (b o c F I U n:Nat) (rs:List (List Vl)) (w:World) (N:rs.length=n) (h8:n<=100) (hr:∀r∈rs,r.length<=60) (V:b<w.heap.size) (O:F<w.heap.size) (hc:QdD w b o rs) (J:QdD w F I rs):
 Calls Tryz.prog 27 #[.slice (some ⟨b,o,none⟩) n c,.slice (some ⟨F,I,none⟩) n U,.func (.func 28) #[] #[]] w fun e w'=>e=.returned (.bool true)/\Below w.heap.size w w':=by
 have HN:=Hk N;clear N;go_enter Tryz.func27,Tryz.ntmps27;go_wp2;go_loopw [17] (fun i wr=>∃k:Nat,k<=n/\i=.int .i64 k/\Below w.heap.size w wr) (fun i _=>n-(intOf i).toNat)
 case atStart=>exact⟨0,Nat.zero_le _,rfl,Below.refl _ _⟩
 case round=>
  obtain⟨k,hk,rfl,h⟩:=hrel
  by_cases hlt:k<n
  ·have D:k<rs.length:=by have:=HN.out;omega
   obtain⟨u,K,E⟩:=hc k D;have du:=cK h V K;obtain⟨u',H,y⟩:=J k D;have du':=cK h O H;have Z:=Hk (QlV u u' rs[k] wr (E.below h) (y.below h) (hr _ (List.getElem_mem D)));obtain⟨a3,c3,rfl,-,-⟩:=E;obtain⟨a4,c4,rfl,-,-⟩:=y;clear K H;go_wp2_with (go_at_call 28;refine Z.out.mono ?_;rintro e w2 ⟨rfl,M⟩);go_roundw
   case rel=>exact⟨k+1,by omega,by go_num,h.trans (M.mono h.size)⟩
   case measure=>simp[intOf];omega
  ·go_wp2;go_ret;exact⟨rfl,h⟩
theorem QlW (a h:Option Addr) (c y:Nat) (f:Value) (w:World):
 Calls Tryz.prog 27 #[.slice a 0 c,.slice h 0 y,f] w fun e w'=>e=.returned (.bool true)/\Below w.heap.size w w':=by
 go_enter Tryz.func27,Tryz.ntmps27;go_wp2;go_loopw [17] (fun i wr=>i=.int .i64 0/\wr=w) (fun i _=>0)
 case atStart=>exact⟨rfl,rfl⟩
 case round=>
  obtain⟨rfl,rfl⟩:=hrel;go_wp2;go_ret;exact⟨rfl,Below.refl _ _⟩
theorem Qqs (v D:Value) (rs:List (List Vl)) (w:World) (h:QaG w v rs) (I:QaG w D rs) (V:rs.length<=65) (N:∀r∈rs,r.length<=60):
 Calls Tryz.prog 27 #[v,D,.func (.func 28) #[] #[]] w fun e w'=>e=.returned (.bool true)/\Below w.heap.size w w':=by
 obtain⟨a,c,rfl,K⟩:=h;obtain⟨Z,M,rfl,E⟩:=I;rcases K with rfl|⟨b,o,rfl,J,H⟩
 ·exact QlW _ _ _ _ _ _
 ·rcases E with rfl|⟨O,U,rfl,F,y⟩
  ·exact QlW _ _ _ _ _ _
  ·exact Qqr b o c O U M rs.length rs w rfl (by omega) N J F H y
theorem Qn2 (J I E D:Value) (cs:List Cl) (rs:List (List Vl)) (w:World) (O:Qax w J cs) (K:QaG w I rs) (H:Qax w E cs) (F:QaG w D rs) (Z:cs.length<=60) (N:rs.length<=65) (hl:∀r∈rs,r.length<=60):
 Calls Tryz.prog 12 #[.agg #[J,I],.agg #[E,D]] w fun e w'=>e=.returned (.bool true)/\Below w.heap.size w w':=by
 have U:=Hk (fun w1 (y:Below w.heap.size w w1)=>Qpd J E cs w1 (O.below y) (H.below y) Z);have V:=Hk (fun w1 (y:Below w.heap.size w w1)=>Qqs I D rs w1 (K.below y) (F.below y) N hl);obtain⟨a,c,rfl,-,-,-⟩:=O;obtain⟨a',c',rfl,-⟩:=K;obtain⟨a2,c2,rfl,-,-,-⟩:=H;obtain⟨a3,c3,rfl,-⟩:=F;go_enter Tryz.func12,Tryz.ntmps12;go_wp2_with (first|(go_at_call 14;refine(U.out _ ((Qaa _ _).trans ((Qaa _ _).mono (by simp)))).mono ?_;rintro e w2 ⟨rfl,h⟩;obtain⟨ab,ac⟩:=QaQ h)|(go_at_call 27;refine(V.out _ (((Qaa _ _).trans ((Qaa _ _).mono (by simp))).trans (h.mono (by simp;omega)))).mono ?_;rintro e w3 ⟨rfl,M⟩));go_ret;exact⟨rfl,((Qaa _ _).trans ((Qaa _ _).mono (by simp))).trans ((h.mono (by simp;omega)).trans (M.mono (by have:=h.size;simp at this;omega)))⟩
def QlX (w:World) (v:Value) (ss:List ByteArray):Prop:=∃a c,v=.slice a ss.length c/\(∀s∈ss,s.size<=maxLen)/\(ss=[]\/∃b o,a=some ⟨b,o,none⟩/\b<w.heap.size/\Qcp w b o ss)
theorem QlX.below {w w':World} {v:Value} {D:List ByteArray} (h:QlX w v D) (E:Below w.heap.size w w'):QlX w' v D:=by
 obtain⟨a,c,e,H,h⟩:=h;refine⟨a,c,e,H,?_⟩;rcases h with h|⟨b,o,I,y,F⟩
 ·exact Or.inl h
 ·exact Or.inr ⟨b,o,I,Nat.lt_of_lt_of_le y E.size,F.below E y⟩
def QhL (cs:List Cl) (seen:List ByteArray):List ByteArray->Int
 |[]=>0
 |s::r=>if Qaq cs s.data.toList=none then 7 else if inS seen s.data.toList=true then 9 else QhL cs (seen++[s]) r
def QaR (cs:List Cl) (ss:List ByteArray):Int:=if ss.length=0\/6<ss.length then 1 else QhL cs [] ss
theorem QlY (cs:List Cl) (h:List ByteArray) (k:Nat) (y:k<h.length):QhL cs (h.take k) (h.drop k)=if Qaq cs h[k].data.toList=none then 7 else if inS (h.take k) h[k].data.toList=true then 9 else QhL cs (h.take (k+1)) (h.drop (k+1)):=by
 rw[List.drop_eq_getElem_cons y,QhL,List.take_succ_eq_append_getElem y]
theorem Qcp.take {w:World} {b o:Nat} {y:List ByteArray} (h:Qcp w b o y) (k:Nat):Qcp w b o (y.take k):=fun j hj=>by
 rw[List.getElem_take];exact h j (by rw[List.length_take] at hj;omega)
theorem QgU (E:Option Addr) (n y:Nat) (D:Value) (w:World) (h:n=0\/6<n) (H:n<=maxLen):
 Calls Tryz.prog 127 #[.slice E n y,D] w fun e w'=>e=.returned (QbN 1)/\Below w.heap.size w w':=by
 rw[QaT (by decide)];unfold maxLen at H
 by_cases F:n=0
 ·subst F;clear h;go_enter Tryz.func127,Tryz.ntmps127;go_wp2;go_ret;exact⟨rfl,Below.refl _ _⟩
 ·have I:(6:Int)<(n:Int):=by omega
  have h0':((n:Int)==0)=false:=by simp;omega
  clear h;go_enter Tryz.func127,Tryz.ntmps127;go_wp2;go_ret;exact⟨rfl,Below.refl _ _⟩
theorem QhM (O no nc b o n c m:Nat) (y:List ByteArray) (cs:List Cl) (w:World) (hm:y.length=m) (ax:0<m) (av:m<=6) (ap:m<=nc) (ac:O<w.heap.size) (hs:Qcp w O no y) (hn:cs.length=n) (aj:n<=100) (hb:b<w.heap.size) (hc:Qau w b o cs):
 Calls Tryz.prog 127 #[.slice (some ⟨O,no,none⟩) m nc,.slice (some ⟨b,o,none⟩) n c] w fun e w'=>e=.returned (QbN (QhL cs [] y))/\Below w.heap.size w w':=by
 have HP:=Hk (fun W (h1:Below w.heap.size w W) nm=>QaH b o n c cs nm W hn aj (by have:=h1.size;omega) (hc.below h1 hb));have HS:=Hk hs;have HM:=Hk hm;have h0':((m:Int)==0)=false:=by simp;omega
 have h6':¬((6:Int)<(m:Int)):=by omega
 have HH:=Hk (Ai hn hc);clear hn hc hs hm;go_enter Tryz.func127,Tryz.ntmps127;go_wp2;go_loopw [18] (fun i wr=>∃k:Nat,k<=m/\i=.int .i64 k/\QhL cs [] y=QhL cs (y.take k) (y.drop k)/\Below w.heap.size w wr) (fun i _=>m-(intOf i).toNat)
 case atStart=>exact⟨0,Nat.zero_le _,rfl,by simp,Below.refl _ _⟩
 case round=>
  obtain⟨k,hk,rfl,K,D⟩:=hrel;have I:=Hk (Ai K D)
  by_cases hlt:k<m
  ·have ab:k<y.length:=by have:=HM.out;omega
   have d1:=(D.cell (p:=⟨O,no+k,none⟩) ac).trans (HS.out k ab);have h:=QlY cs y k ab;have J:=Hk (fun nm=>HP.out wr D nm);have Z:=Hk (fun W (V:Below wr.heap.size wr W) x=>QcQ O no k nc (y.take k) x W (by rw[List.length_take];omega) (by omega) ((HS.out.below D ac).take k|>.below V (by have:=D.size;omega)));have aw:(k:Int)<=(nc:Int):=by omega
   clear K D;generalize N:y[k]=sk at*
   cases gp:Qaq cs sk.data.toList with
   |none=>
    have H:=J.out sk;rw[show QaB cs sk.data.toList= -1 by rw[QaB,gp]] at H;rw[gp,if_pos rfl] at h;have M:=Hk H;have F:=Hk (I.out.1.trans h);clear H gp h N J Z;go_wp2_with (go_at_call 133;refine M.out.mono ?_;rintro e w1 ⟨rfl,E⟩);go_ret;refine⟨?_,bel_then I.out.2 E⟩;rw[F.out,QaT (by decide)];rfl
   |some q=>
    have H:=J.out sk;rw[show QaB cs sk.data.toList=(q:Int) by rw[QaB,gp]] at H;rw[gp,if_neg (by simp)] at h;have M:=Hk H;clear H gp J
    cases gi:inS (y.take k) sk.data.toList
    ·rw[gi,if_neg (by simp)] at h;have F:=Hk (I.out.1.trans h);have U:=Hk (fun W (V:Below wr.heap.size wr W)=>by have:=Z.out W V sk;rw[gi] at this;exact this);clear h N gi Z;go_wp2_with (first|(go_at_call 133;refine M.out.mono ?_;rintro e w1 ⟨rfl,E⟩)|(go_at_call 37;refine(U.out _ E).mono ?_;rintro e w2 ⟨rfl,rfl⟩));go_roundw
     case rel=>exact⟨k+1,by omega,by go_num,F.out,bel_then I.out.2 E⟩
     case measure=>simp[intOf];omega
    ·rw[gi,if_pos rfl] at h;have F:=Hk (I.out.1.trans h);have U:=Hk (fun W (V:Below wr.heap.size wr W)=>by have:=Z.out W V sk;rw[gi] at this;exact this);clear h N gi Z;go_wp2_with (first|(go_at_call 133;refine M.out.mono ?_;rintro e w1 ⟨rfl,E⟩)|(go_at_call 37;refine(U.out _ E).mono ?_;rintro e w2 ⟨rfl,rfl⟩));go_ret;refine⟨?_,bel_then I.out.2 E⟩;rw[F.out,QaT (by decide)];rfl
  ·have ai:k=m:=by omega
   subst ai;have HE:=Hk (show QhL cs [] y=0 by rw[K,List.drop_of_length_le (by have:=HM.out;omega)];rfl);clear K D;go_wp2;go_ret;rw[HE.out,QeK];exact⟨rfl,I.out.2⟩
theorem Tryz.infoInt:(Tryz.prog.info? 3).map (fun i=>(i.zero,i.size,i.bytes))=some (some (.int .i64 0),1,8):=by kernel_rfl
def intCells (ks:List Nat):List Value:=ks.map fun(k:Nat)=>.int .i64 (k:Int)
def QcE (w:World) (b o:Nat) (ks:List Nat):Prop:=∀(j:Nat) (h:j<ks.length),w.cell? ⟨b,o+j,none⟩=some (.int .i64 (ks[j]:Int))
theorem QcE.below {w w':World} {B b o:Nat} {D:List Nat} (h:QcE w b o D) (E:Below B w w') (y:b<B):QcE w' b o D:=fun j hj=>(E.cell (p:=⟨b,o+j,none⟩) y).trans (h j hj)
theorem QdL {w:World} {B:Nat} {v:Value} {y:List Nat} (h:w.ownsRow B 3 1 v y.length (intCells y)) (F:0<y.length):∃g c,v=.slice (some ⟨g,0,none⟩) y.length c/\B<=g/\g<w.heap.size/\QcE w g 0 y:=by
 obtain⟨g,c,rfl,E,D,H⟩:=QcD h F;exact⟨g,c,rfl,E,D,fun j hj=>H j _ (by rw[intCells,List.getElem?_map,List.getElem?_eq_getElem hj];rfl)⟩
theorem QpA (k:IntKind) (n:Int):∀u∈[Value.int k n],u.oneCell'=true:=by intro u h;simp at h;subst h;rfl
theorem QrZ (a b:Int) (s:ByteArray):∀u∈[Value.int .i64 a,.int .i64 b,.string s],u.oneCell'=true:=by intro u h;simp at h;rcases h with rfl|rfl|rfl<;>rfl
theorem Qr0 (b:Int) (s:ByteArray):∀u∈[Value.string s,.int .i64 b],u.oneCell'=true:=by intro u h;simp at h;rcases h with rfl|rfl<;>rfl
theorem Qrl (w:World) (a b c:Value) (t:TypeId) (H:Nat) (y:w.heap.size=H):∀j u,[a,b,c][j]? =some u->(w.alloc (.cells #[a,b,c] t)).cell? ((⟨H,0,none⟩:Addr).add j)=some u:=by
 intro j u h;subst y
 match j,h with
 |0,h=>simp at h;subst h;simp[Addr.add]
 |1,h=>simp at h;subst h;simp[Addr.add]
 |2,h=>simp at h;subst h;simp[Addr.add]
theorem news2 (w:World) (a b:Value) (t:TypeId) (H:Nat) (y:w.heap.size=H):∀j u,[a,b][j]? =some u->(w.alloc (.cells #[a,b] t)).cell? ((⟨H,0,none⟩:Addr).add j)=some u:=by
 intro j u h;subst y
 match j,h with
 |0,h=>simp at h;subst h;simp[Addr.add]
 |1,h=>simp at h;subst h;simp[Addr.add]
theorem Qd1 (N no nc b o n c m:Nat) (H:List ByteArray) (D:List Nat) (cs:List Cl) (w:World) (hm:H.length=m) (aE:m<=100) (am:N<w.heap.size) (hs:Qcp w N no H) (hn:cs.length=n) (ai:n<=100) (hb:b<w.heap.size) (hc:Qau w b o cs) (V:D.length=m) (Z:∀j (h:j<H.length) (h':j<D.length),Qaq cs H[j].data.toList=some D[j]):
 Calls Tryz.prog 131 #[.slice (some ⟨b,o,none⟩) n c,.slice (some ⟨N,no,none⟩) m nc] w fun e w'=>∃v,e=.returned v/\w'.ownsRow w.heap.size 3 1 v D.length (intCells D)/\Below w.heap.size w w':=by
 obtain⟨i0,hi,ac,af,ah⟩:=info_parts Tryz.infoInt;have HP:=Hk (fun W (h1:Below w.heap.size w W) nm=>QaH b o n c cs nm W hn ai (by have:=h1.size;omega) (hc.below h1 hb));have HS:=Hk hs;have M:=Hk (Ai hm (Ai V Z));clear hn hc hs hm V Z;go_enter Tryz.func131,Tryz.ntmps131;go_wp2;go_loopw [5,10] (fun l i wr=>∃k:Nat,k<=m/\i=.int .i64 k/\wr.ownsRow w.heap.size 3 1 l k (intCells (D.take k))/\Below w.heap.size w wr) (fun _ i _=>m-(intOf i).toNat)
 case atStart=>exact⟨0,Nat.zero_le _,rfl,World.ownsRow_nil _ _ _ _,Below.refl _ _⟩
 case round=>
  obtain⟨k,hk,rfl,y,E⟩:=hrel;obtain⟨la,lc,rfl⟩:=own_slice y;have O:=Hk (Ai y E);have aD:=E.size
  by_cases hlt:k<m
  ·have U:k<H.length:=by have:=M.out.1;omega
   have aa:k<D.length:=by have:=M.out.2.1;omega
   have d1:=(E.cell (p:=⟨N,no+k,none⟩) am).trans (HS.out k U);have hP:=HP.out wr E H[k];rw[show QaB cs H[k].data.toList=((D[k]:Nat):Int) by rw[QaB,M.out.2.2 k U aa]] at hP;have ao:=Hk hP;have HT:=Hk (show intCells (D.take k)++[.int .i64 ((D[k]:Nat):Int)]=intCells (D.take (k+1)) by rw[List.take_succ_eq_append_getElem aa,intCells,intCells,List.map_append];rfl);clear y E hP;generalize H[k]=sk at*;generalize D[k]=kk at*;go_wp2_with (first|(go_at_call 133;refine ao.out.mono ?_;rintro e w1 ⟨rfl,I⟩)|(at_builtin;refine wpList_append_own _ rfl _ _ 73 rfl w.heap.size 3 i0 (.int .i64 0) 1 8 Tryz.underlying73 hi ac af ah rfl (by decide) _ _ _ rfl ((owns_below O.out.1 I).alloc _) ⟨w1.heap.size,0,none⟩ 1 1 [.int .i64 (kk:Int)] rfl rfl (news1 _ _ _ _ rfl) (QpA _ _) ?c3 ?c4 ?c5 ?_))
   case c3=>unfold maxLen;omega
   case c4=>omega
   case c5=>have:=I.size;simp;omega
   intro v' w5 F J _;have aF:=I.size;have K:Below w.heap.size w w5:=((bel_then O.out.2 I).alloc (by omega) _).grown J (by simp;omega) (fun q hq=>(O.out.1.lt q hq).1);rw[HT.out] at F;have HF:=Hk (Ai F K);clear F J K;go_wp2;go_roundw
   case rel=>exact⟨k+1,by omega,by go_num,HF.out.1,HF.out.2⟩
   case measure=>simp[intOf];omega
  ·have ag:k=m:=by omega
   subst ag;rw[List.take_of_length_le (by have:=M.out.2.1;omega)] at y;have HO:=Hk y;clear y E;go_wp2;go_ret;refine⟨_,rfl,?_,O.out.2⟩;rw[M.out.2.1];exact HO.out
def QbS (ks:List Nat) (r:List Vl):List Vl:=ks.map fun k=>r[k]?.getD (0,0,⟨#[]⟩)
def Qbd (ks:List Nat) (cs:List Cl):List Cl:=ks.map fun k=>cs[k]?.getD (⟨#[]⟩,0)
theorem QkA (I J rc b o c:Nat) (r:List Vl) (h:List Nat) (w:World) (O:QaS w I J r) (N:I<w.heap.size) (Z:QcE w b o h) (hb:b<w.heap.size) (E:∀k∈h,k<r.length) (al:h.length<=100) (aj:r.length<=100):
 Calls Tryz.prog 173 #[.slice (some ⟨I,J,none⟩) r.length rc,.slice (some ⟨b,o,none⟩) h.length c] w fun e w'=>∃v,e=.returned v/\w'.ownsRow w.heap.size 46 3 v h.length (Qag (QbS h r))/\Below w.heap.size w w':=by
 obtain⟨i0,hi,ab,ad,ag⟩:=info_parts Tryz.infoVal;have HS:=Hk (Ai O (Ai Z E));clear O Z E;go_enter Tryz.func173,Tryz.ntmps173;go_wp2;go_loopw [5,10] (fun l i wr=>∃k:Nat,k<=h.length/\i=.int .i64 k/\wr.ownsRow w.heap.size 46 3 l k (Qag (QbS (h.take k) r))/\Below w.heap.size w wr) (fun _ i _=>h.length-(intOf i).toNat)
 case atStart=>exact⟨0,Nat.zero_le _,rfl,World.ownsRow_nil _ _ _ _,Below.refl _ _⟩
 case round=>
  obtain⟨k,Z,rfl,y,D⟩:=hrel;obtain⟨la,lc,rfl⟩:=own_slice y;have U:=Hk (Ai y D);have aw:=D.size
  by_cases E:k<h.length
  ·obtain⟨O,V,hl⟩:=HS.out;have M:=hl _ (List.getElem_mem E);have d1:=(D.cell (p:=⟨b,o+k,none⟩) hb).trans (V k E);obtain⟨e0,e1,e2⟩:=O _ M;have d2:=cK D N e0;have d3:=cK D N e1;have d4:=cK D N e2;have HT:=Hk (show Qag (QbS (h.take k) r)++[.int .i64 r[h[k]].1,.int .i64 r[h[k]].2.1,.string r[h[k]].2.2]=Qag (QbS (h.take (k+1)) r) by
    rw[List.take_succ_eq_append_getElem E,QbS,QbS,List.map_append,Qdb];simp[Qag,List.getElem?_eq_getElem M])
   have hq':((h[k]:Nat):Int)<(r.length:Int):=by omega
   generalize r[h[k]]=x at*;generalize h[k]=kk at*;clear y D O V hl e0 e1 e2 M;go_wp2_with (at_builtin;refine wpList_append_own _ rfl _ _ 84 rfl w.heap.size 46 i0 (.agg #[.int .i64 0,.int .i64 0,.string ⟨#[]⟩]) 3 32 Tryz.underlying84 hi ab ad ag rfl (by decide) _ _ _ rfl (U.out.1.alloc _) ⟨wr.heap.size,0,none⟩ 1 1 [.int .i64 x.1,.int .i64 x.2.1,.string x.2.2] rfl rfl (Qrl _ _ _ _ _ _ rfl) (QrZ _ _ _) ?c3 ?c4 ?c5 ?_)
   case c3=>unfold maxLen;omega
   case c4=>omega
   case c5=>simp;omega
   intro v' w5 F H _;have K:Below w.heap.size w w5:=(U.out.2.alloc (by omega) _).grown H (by simp;omega) (fun q M=>(U.out.1.lt q M).1);rw[HT.out] at F;have HF:=Hk (Ai F K);clear F H K;go_wp2;go_roundw
   case rel=>exact⟨k+1,by omega,by go_num,HF.out.1,HF.out.2⟩
   case measure=>simp[intOf];omega
  ·have af:k=h.length:=by omega
   subst af;rw[List.take_of_length_le (Nat.le_refl _)] at y;have HO:=Hk y;clear y D;go_wp2;go_ret;exact⟨_,rfl,HO.out,U.out.2⟩
theorem Qgu (K N rc b o c:Nat) (r:List Cl) (h:List Nat) (w:World) (M:Qau w K N r) (V:K<w.heap.size) (Z:QcE w b o h) (hb:b<w.heap.size) (E:∀k∈h,k<r.length) (ak:h.length<=100) (ai:r.length<=100):
 Calls Tryz.prog 130 #[.slice (some ⟨K,N,none⟩) r.length rc,.slice (some ⟨b,o,none⟩) h.length c] w fun e w'=>∃v,e=.returned v/\w'.ownsRow w.heap.size 64 2 v h.length (Qal (Qbd h r))/\Below w.heap.size w w':=by
 obtain⟨i0,hi,ab,ad,af⟩:=info_parts Tryz.infoCol;have HS:=Hk (Ai M (Ai Z E));clear M Z E;go_enter Tryz.func130,Tryz.ntmps130;go_wp2;go_loopw [5,10] (fun l i wr=>∃k:Nat,k<=h.length/\i=.int .i64 k/\wr.ownsRow w.heap.size 64 2 l k (Qal (Qbd (h.take k) r))/\Below w.heap.size w wr) (fun _ i _=>h.length-(intOf i).toNat)
 case atStart=>exact⟨0,Nat.zero_le _,rfl,World.ownsRow_nil _ _ _ _,Below.refl _ _⟩
 case round=>
  obtain⟨k,Z,rfl,y,D⟩:=hrel;obtain⟨la,lc,rfl⟩:=own_slice y;have O:=Hk (Ai y D);have av:=D.size
  by_cases E:k<h.length
  ·obtain⟨M,U,hl⟩:=HS.out;have J:=hl _ (List.getElem_mem E);have d1:=(D.cell (p:=⟨b,o+k,none⟩) hb).trans (U k E);obtain⟨e0,e1⟩:=M _ J;have d2:=cK D V e0;have d3:=cK D V e1;have HT:=Hk (show Qal (Qbd (h.take k) r)++[.string r[h[k]].1,.int .i64 r[h[k]].2]=Qal (Qbd (h.take (k+1)) r) by
    rw[List.take_succ_eq_append_getElem E,Qbd,Qbd,List.map_append];simp[Qal,List.getElem?_eq_getElem J])
   have hq':((h[k]:Nat):Int)<(r.length:Int):=by omega
   generalize r[h[k]]=x at*;generalize h[k]=kk at*;clear y D M U hl e0 e1 J;go_wp2_with (at_builtin;refine wpList_append_own _ rfl _ _ 51 rfl w.heap.size 64 i0 (.agg #[.string ⟨#[]⟩,.int .i64 0]) 2 24 Tryz.underlying51 hi ab ad af rfl (by decide) _ _ _ rfl (O.out.1.alloc _) ⟨wr.heap.size,0,none⟩ 1 1 [.string x.1,.int .i64 x.2] rfl rfl (news2 _ _ _ _ _ rfl) (Qr0 _ _) ?c3 ?c4 ?c5 ?_)
   case c3=>unfold maxLen;omega
   case c4=>omega
   case c5=>simp;omega
   intro v' w5 F H _;have I:Below w.heap.size w w5:=(O.out.2.alloc (by omega) _).grown H (by simp;omega) (fun q J=>(O.out.1.lt q J).1);rw[HT.out] at F;have HF:=Hk (Ai F I);clear F H I;go_wp2;go_roundw
   case rel=>exact⟨k+1,by omega,by go_num,HF.out.1,HF.out.2⟩
   case measure=>simp[intOf];omega
  ·have ae:k=h.length:=by omega
   subst ae;rw[List.take_of_length_le (Nat.le_refl _)] at y;have HO:=Hk y;clear y D;go_wp2;go_ret;exact⟨_,rfl,HO.out,O.out.2⟩
theorem Qn3 (h:List Nat) (r:List Vl):(QbS h r).length=h.length:=by simp[QbS]
theorem QlZ {D:List Nat} {r:List Vl} (h:∀x∈r,x.2.2.size<=maxLen):∀x∈QbS D r,x.2.2.size<=maxLen:=by
 intro x y;obtain⟨k,-,rfl⟩:=List.mem_map.1 y
 by_cases hk:k<r.length
 ·simp only[List.getElem?_eq_getElem hk,Option.getD_some];exact h _ (List.getElem_mem hk)
 ·rw[List.getElem?_eq_none (by omega)];exact Nat.zero_le _
theorem QiW (v:Value) (r:List Vl) (b o c:Nat) (y:List Nat) (w:World) (U:QcA w v r) (J:QcE w b o y) (V:b<w.heap.size) (E:∀k∈y,k<r.length) (H:0<y.length) (F:y.length<=100) (D:r.length<=100):
 Calls Tryz.prog 173 #[v,.slice (some ⟨b,o,none⟩) y.length c] w fun e w'=>∃v,e=.returned v/\w'.ownsRow w.heap.size 46 3 v (QbS y r).length (Qag (QbS y r))/\Below w.heap.size w w':=by
 obtain⟨a,O,rfl,-,h⟩:=U;rcases h with h|⟨M,N,rfl,K,I⟩
 ·have:=E _ (List.getElem_mem H);rw[h] at this;simp at this
 ·rw[Qn3];exact QkA M N O b o c r y w I K J V E F D
theorem QgV (v:Value) (rs:List (List Vl)) (b o c:Nat) (h:List Nat) (w:World) (hr:QaG w v rs) (hl:∀r∈rs,(∀k∈h,k<r.length)/\r.length<=100) (aq:0<h.length) (hb:b<w.heap.size) (ag:QcE w b o h) (h6:h.length<=100) (aO:rs.length<=100):
 Calls Tryz.prog 143 #[v,.slice (some ⟨b,o,none⟩) h.length c] w fun e w'=>∃v' us,e=.returned v'/\w'.ownsRow w.heap.size 84 1 v' rs.length us/\Qab w' w.heap.size us (rs.map (QbS h))/\Below w.heap.size w w':=by
 obtain⟨i0,hi,ap,ar,au⟩:=info_parts Tryz.infoRow;have HR:=Hk hr;have HL:=Hk hl;have HK:=Hk ag;clear hl ag;obtain⟨va,aR,rfl,-⟩:=hr;go_enter Tryz.func143,Tryz.ntmps143;go_wp2;go_loopw [5,10] (fun l i wr=>∃(k:Nat) (us:List Value),k<=rs.length/\i=.int .i64 k/\wr.ownsRow w.heap.size 84 1 l k us/\Qab wr w.heap.size us ((rs.take k).map (QbS h))/\Below w.heap.size w wr) (fun _ i _=>rs.length-(intOf i).toNat)
 case atStart=>exact⟨0,[],Nat.zero_le _,rfl,World.ownsRow_nil _ _ _ _,Qab.nil _ _,Below.refl _ _⟩
 case round=>
  obtain⟨k,us,hk,rfl,E,y,F⟩:=hrel;obtain⟨la,lc,rfl⟩:=own_slice E;have I:=Hk (Ai E y);have HX:=Hk F;have aP:=F.size
  by_cases hlt:k<rs.length
  ·obtain⟨b',o',c',ab,am,af⟩:=QgS HR.out (by omega);simp only[Value.slice.injEq,true_and] at ab;obtain⟨rfl,rfl⟩:=ab;obtain⟨u,hu,N⟩:=af k hlt;have cu:=cK F am hu;have ad:=N.below F;obtain⟨ua,uc,rfl⟩:=row_slice N;have J:=HL.out _ (List.getElem_mem hlt);have ac:=QiW _ _ b o c h wr ad (HK.out.below F hb) (by omega) J.1 aq h6 J.2;have ai:∀x∈QbS h rs[k],x.2.2.size<=maxLen:=QlZ (by obtain⟨_,_,_,hs,_⟩:=N;exact hs);have HC:=Hk ac;have HS:=Hk (Ai ai J);clear ac af hu N ad F E y ai J;generalize ae:rs[k]=rk at*;have ay:=Hk ae;clear ae;go_wp2_with (first|(go_at_call 173;refine HC.out.mono ?_;rintro e w1 ⟨v1,rfl,Z,H⟩;obtain⟨O,K,rfl⟩:=own_slice Z)|(at_builtin;refine wpList_append_own _ rfl _ _ 52 rfl w.heap.size 84 i0 (.slice none 0 0) 1 24 Tryz.underlying52 hi ap ar au rfl (by decide) _ _ _ rfl ((owns_below I.out.1 H).alloc _) ⟨w1.heap.size,0,none⟩ 1 1 [.slice O (QbS h rk).length K] rfl rfl (news1 _ _ _ _ rfl) (Qc4 _ _ _) ?c3 ?c4 ?c5 ?_))
   case c3=>unfold maxLen;omega
   case c4=>omega
   case c5=>have:=H.size;simp;omega
   intro v' w5 M D _;have aQ:=H.size;have V:Below w.heap.size w w5:=((bel_then HX.out H).alloc (by omega) _).grown D (by simp;omega) (fun q hq=>(I.out.1.lt q hq).1);have U:=((owns_below I.out.1 H).alloc (.cells #[.slice O (QbS h rk).length K] 84));have aj:=((I.out.2.below H).below (Qaa w1 (.cells #[.slice O (QbS h rk).length K] 84))).grow U D;have ah:=(Z.alloc (.cells #[.slice O (QbS h rk).length K] 84)).kept D (Qb4 (by decide) (Z.alloc _) U);have aa:=aj.snoc (own_mono (by omega) ah) HS.out.1;rw[show(rs.take k).map (QbS h)++[QbS h rk]=(rs.take (k+1)).map (QbS h) by rw[List.take_succ_eq_append_getElem hlt,ay.out,List.map_append];rfl] at aa;have HF:=Hk (Ai M (Ai aa V));clear M D aa V aj ah U;go_wp2;go_roundw
   case rel=>exact⟨k+1,_,by omega,by go_num,HF.out.1,HF.out.2.1,HF.out.2.2⟩
   case measure=>simp[intOf];omega
  ·have av:k=rs.length:=by omega
   subst av;rw[List.take_of_length_le (Nat.le_refl _)] at y;clear I;have I:=Hk (Ai E y);clear E y F;go_wp2;go_ret;exact⟨_,us,rfl,I.out.1,I.out.2,HX.out⟩
def Qcm (w:World) (v:Value) (ss:List ByteArray):Prop:=∃a c,v=.slice a ss.length c/\ss.length<=c/\ss.length<=maxLen/\(ss=[]\/∃b o,a=some ⟨b,o,none⟩/\b<w.heap.size/\Qcp w b o ss)
theorem Qcm.below {w w':World} {v:Value} {D:List ByteArray} (h:Qcm w v D) (E:Below w.heap.size w w'):Qcm w' v D:=by
 obtain⟨a,c,e,I,H,h⟩:=h;refine⟨a,c,e,I,H,?_⟩;rcases h with h|⟨b,o,J,y,F⟩
 ·exact Or.inl h
 ·exact Or.inr ⟨b,o,J,Nat.lt_of_lt_of_le y E.size,F.below E y⟩
theorem Qd2 (v V:Value) (y:List ByteArray) (b o n c:Nat) (cs:List Cl) (w:World) (M:Qcm w v y) (O:cs.length=n) (F:n<=100) (K:b<w.heap.size) (N:Qau w b o cs):
 Calls Tryz.prog 127 #[v,.slice (some ⟨b,o,none⟩) n c] w fun e w'=>e=.returned (QbN (QaR cs y))/\Below w.heap.size w w':=by
 obtain⟨a,D,rfl,E,H,h⟩:=M
 by_cases hf:y.length=0\/6<y.length
 ·rw[show QaR cs y=1 by unfold QaR;rw[if_pos hf]];exact QgU a y.length D _ w hf H
 ·rw[show QaR cs y=QhL cs [] y by unfold QaR;rw[if_neg hf]];rcases h with h|⟨U,no,rfl,J,I⟩
  ·rw[h] at hf;simp at hf
  ·exact QhM U no D b o n c y.length y cs w rfl (by omega) (by omega) E J I O F K N
theorem Qpe (cs:List Cl):∀(E y:List ByteArray),QhL cs y E=0->∀s∈E,∃k,Qaq cs s.data.toList=some k
 |[],_,_,s,D=>absurd D (by simp)
 |a::r,y,h,s,D=>by
  rw[QhL] at h;split at h
  ·cases h
  ·rename_i F
   split at h
   ·cases h
   ·rcases List.mem_cons.1 D with rfl|D
    ·cases g:Qaq cs s.data.toList with
     |none=>exact absurd g F
     |some k=>exact⟨k,rfl⟩
    ·exact Qpe cs r _ h s D
def Qak (cs:List Cl) (ss:List ByteArray):List Nat:=ss.map fun s=>(Qaq cs s.data.toList).getD 0
theorem QcF {cs:List Cl} {y:List ByteArray} (h:QaR cs y=0):0<y.length/\y.length<=6/\(∀s∈y,∃k,Qaq cs s.data.toList=some k):=by
 unfold QaR at h;split at h
 ·cases h
 ·exact⟨by omega,by omega,Qpe cs y [] h⟩
theorem Qd3 {cs:List Cl} {y:List ByteArray} (h:∀s∈y,∃k,Qaq cs s.data.toList=some k):∀j (D:j<y.length) (E:j<(Qak cs y).length),Qaq cs y[j].data.toList=some (Qak cs y)[j]:=by
 intro j D E;obtain⟨k,F⟩:=h _ (List.getElem_mem D);simp[Qak,F]
theorem QcG {cs:List Cl} {y:List ByteArray} (h:∀s∈y,∃k,Qaq cs s.data.toList=some k):∀k∈Qak cs y,k<cs.length:=by
 intro k F;obtain⟨s,E,rfl⟩:=List.mem_map.1 F;obtain⟨q,D⟩:=h s E;rw[D];exact Qap D
theorem Qgv (E M F Z b o n c:Nat) (cs:List Cl) (y:List ByteArray) (j:Jb) (w:World) (h:j.code=3) (ac:0<F) (ad:E<w.heap.size) (h0:w.cell? ⟨E,M,none⟩=some (.slice (some ⟨b,o,none⟩) n c)) (N:Qcm w j.cols y)
 (O:cs.length=n) (K:n<=100) (J:b<w.heap.size) (hc:Qau w b o cs):
 Calls Tryz.prog 96 #[.agg j.cells,.slice (some ⟨E,M,none⟩) F Z] w fun e w'=>e=.returned (QbN (QaR cs y))/\Below w.heap.size w w':=by
 have H:=fun W (I:Below w.heap.size w W)=>Qd2 j.cols .nilIface y b o n c cs W (N.below I) O K (by have:=I.size;omega) (hc.below I J)
 obtain⟨ca,cc,U,-⟩:=N;unfold Jb.cells;rw[U] at H⊢;generalize QaR cs y=r at*;obtain⟨code,D⟩:∃k,j.code=k:=⟨_,rfl⟩;rw[D] at h⊢;clear D;subst h;have HT:=Hk H;have htk':(0:Int)<(F:Int):=by omega
 clear H O hc U;go_enter Tryz.func96,Tryz.ntmps96;go_wp2_with (go_at_call 127;refine(HT.out _ (Qaa _ _)).mono ?_;rintro e w1 ⟨rfl,V⟩);go_ret;exact⟨rfl,bel_then (Qaa _ _) V⟩
theorem QeN (O ho V aq b o n c:Nat) (cs:List Cl) (y:List ByteArray) (j:Jb) (w:World) (H:j.code=3) (aD:0<V) (aE:O<w.heap.size) (h0:w.cell? ⟨O,ho,none⟩=some (.slice (some ⟨b,o,none⟩) n c)) (hs:Qcm w j.cols y) (he:QaR cs y=0)
 (hn:cs.length=n) (ag:n<=100) (J:b<w.heap.size) (hc:Qau w b o cs):
 Calls Tryz.prog 97 #[.agg j.cells,.slice (some ⟨O,ho,none⟩) V aq] w fun e w'=>∃u,e=.returned u/\w'.ownsRow w.heap.size 64 2 u (Qbd (Qak cs y) cs).length (Qal (Qbd (Qak cs y) cs))/\Below w.heap.size w w':=by
 obtain⟨l0,l6,E⟩:=QcF he;obtain⟨ca,cc,hj,Z,ak,F⟩:=hs;rcases F with h|⟨nb,no,rfl,hl,F⟩
 ·rw[h] at l0;simp at l0
 have K:(Qak cs y).length=y.length:=by simp[Qak]
 have hT:=fun W (D:Below w.heap.size w W)=>Qd1 nb no cc b o n c y.length y (Qak cs y) cs W rfl (by omega) (by have:=D.size;omega) (F.below D hl) hn ag (by have:=D.size;omega) (hc.below D J) K (Qd3 E)
 have U:=fun W (D:Below w.heap.size w W) g gc (hg:g<W.heap.size) (hi:QcE W g 0 (Qak cs y))=>Qgu b o c g 0 gc cs (Qak cs y) W (hc.below D J) (by have:=D.size;omega) hi hg (QcG E) (by omega) (by omega)
 rw[hn] at U;rw[show(Qbd (Qak cs y) cs).length=(Qak cs y).length by simp[Qbd]];unfold Jb.cells;rw[hj];obtain⟨code,N⟩:∃k,j.code=k:=⟨_,rfl⟩;rw[N] at H⊢;clear N;subst H;have M:0<(Qak cs y).length:=by omega
 generalize ae:Qak cs y=ks at*;have HT:=Hk hT;have HQ:=Hk U;have htk':(0:Int)<(V:Int):=by omega
 have HK:=Hk M;clear hT U hn hc hj F E K l0 l6 he ae M ak Z;go_enter Tryz.func97,Tryz.ntmps97;go_wp2_with (first|(go_at_call 131;refine(HT.out _ (Qaa _ _)).mono ?_;rintro e w1 ⟨v1,rfl,ai,I⟩;obtain⟨g,gc,rfl,aF,ap,ad⟩:=QdL ai HK.out)|(go_at_call 130;refine(HQ.out _ (bel_then (Qaa _ _) I) _ _ ap ad).mono ?_;rintro e w2 ⟨v2,rfl,ao,al⟩));go_ret;exact⟨_,rfl,own_mono (by have:=I.size;simp at this;omega) ao,bel_then (bel_then (Qaa _ _) I) al⟩
end Go.Proofs.YtjlgejennghhlaaGreatDoor
namespace Go.Proofs
open Go.Shelf
open Go.RowKit
open Go.Sort
def Tryz.laysNm223_ren:Go.Shelf.Ren:=⟨fun|23=>57|n=>n,fun|22=>73|3=>3|4=>4|0=>0|n=>n,fun|n=>n⟩
theorem Tryz.laysNm223:Go.Proofs.Lays2.n23 Tryz.prog Tryz.laysNm223_ren:={
 mixed:=by kernel_rfl
 f23:=Tryz.func57.trans (congrArg some (by kernel_rfl))
 t0:=Tryz.underlying0
 a0:=Tryz.isAgg0
 z0:=Tryz.sizeOf0
 v0:=Tryz.zeroValue0
 t3:=Tryz.underlying3
 a3:=Tryz.isAgg3
 z3:=Tryz.sizeOf3
 v3:=Tryz.zeroValue3
 t4:=Tryz.underlying4
 a4:=Tryz.isAgg4
 z4:=Tryz.sizeOf4
 v4:=Tryz.zeroValue4
 t22:=Tryz.underlying73
 a22:=Tryz.isAgg73
 z22:=Tryz.sizeOf73
 v22:=Tryz.zeroValue73
 i3:=by kernel_rfl}
theorem Tryz.slices_Delete_int (blk h y i j:Nat) (D:List Int) (w:World) (J:Holds (Value.int .i64) w blk h D.toArray) (E:D.length<=y) (H:y<=9223372036854775807) (F:i<=j) (I:j<=D.length):
 Calls Tryz.prog 57 #[.slice (some ⟨blk,h,none⟩) D.length y,.int .i64 i,.int .i64 j] w fun e w'=>e=.returned (.slice (some ⟨blk,h,none⟩) (D.length-(j-i)) y)/\∃q,w'=putRow (Value.int .i64) (Sort.ahead w q) blk h (D.take i++D.drop j++List.replicate (j-i) 0).toArray:=Any.slices_Delete_int Tryz.laysNm223 blk h y i j D w J E H F I
end Go.Proofs
