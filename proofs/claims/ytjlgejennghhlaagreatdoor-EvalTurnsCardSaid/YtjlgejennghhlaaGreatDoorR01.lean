import Derived.Test.YtjlgejennghhlaaGreatDoorProg
import Derived.Below
import Derived.WalkKit
import Derived.WalkSpells
import Derived.WalkLawsBesides
import Derived.Deep.QuietTactic
import Derived.BigQuiet
import Derived.Deep.RegionWith
import Derived.Deep.DeepFit
import Derived.Laws.EntriesVeiled
import Derived.Shelf.Strings.Builder1
import Derived.Shelf.Strings.Builder2
import Derived.Shelf.Strings.OnBuilder
import Derived.Shelf.Small.Strs
import Derived.Shelf.Strings.BuilderF
import Derived.Shelf.Strings.BuilderK
import Derived.Shelf.Strconv.Atoi
import Derived.Shelf.Strconv.Itoa0
import Derived.Shelf.Strconv.Itoa1
import Derived.Shelf.LaysM
import Derived.Shelf.Strconv.Itoa2
import Derived.Shelf.Strconv.Itoa3
import Derived.Shelf.Strconv.AtoiErrFast
import Derived.Shelf.Strconv.ParseIntEmpty
import Derived.Shelf.Strconv.AtoiFail
import Derived.Shelf.Strconv.Clone
import Derived.Shelf.Strconv.SyntaxError
import Derived.Shelf.LaysC
import Derived.Shelf.Strconv.ToError
import Derived.Shelf.Strconv.Lower
import Derived.Shelf.Strconv.ParseUint10
import Derived.Shelf.Strconv.ParseUint10Empty
import Derived.Shelf.Strconv.ParseUint10Any
import Derived.Shelf.Strconv.ParseInt10
import Derived.Shelf.Strconv.AtoiLong
import Derived.Shelf.Strconv.AtoiInnerAll
import Derived.Shelf.Strconv.RangeError
import Derived.Shelf.Strconv.ToErrorRange
import Derived.Shelf.Strconv.AtoiAll
import Derived.Shelf.Strconv.ErrVarAll
import Derived.Shelf.Strings.Search1
import Derived.Shelf.Strings.Search2
import Derived.Shelf.Strings.Search3
import Derived.Shelf.Strings.Cut
import Derived.Shelf.Strings.Count
import Derived.Shelf.Strings.Shaped
import Derived.Shelf.Strings.Prefix
import Derived.Shelf.Strings.Split
import Derived.Shelf.Strings.SplitShaped
import Derived.Shelf.Unicode.DecodeSlow
import Derived.Shelf.Slices.Turned
import Derived.Ground.Names2Prog
import Derived.Shelf.Slices.Delete
import Derived.Shelf.Slices.Cells
import Derived.Shelf.Slices.Empties
import Derived.Lib.QuietBelow
set_option linter.unusedSimpArgs false
set_option linter.unusedVariables false
set_option linter.unusedSectionVars false
set_option maxRecDepth 1000000
set_option maxHeartbeats 16000000
namespace Go.Proofs.YtjlgejennghhlaaGreatDoor
open Go.RowKit
theorem Ai {a b:Prop} (x:a) (y:b):a ∧ b:=⟨x,y⟩
theorem Hk {p:Prop} (h:p):Hid p:=h
theorem cK {n k x:Nat} {i:Option Nat} {w w':World} {v:Value} (h:Below n w w') (hb:k<n) (e:w.cell? ⟨k,x,i⟩=some v):w'.cell? ⟨k,x,i⟩=some v:=(h.cell hb).trans e
theorem mkF (fn:Fn) (first cap:Array Value) (w:World):(Instr.makeFunc fn first cap).run Tryz.prog w=.ok (.func fn first cap) w:=rfl
theorem ret_bool {a b:Bool} (h:a=b):Ending.returned (.bool a)=.returned (.bool b):=by rw[h]
theorem QbB {k:IntKind} {a b:Int} (h:a=b):Ending.returned (.int k a)=.returned (.int k b):=by rw[h]
def pwI (n:Int):Bool:=decide (32<=n)&&(decide (n<=126)&&n != 39)
def QnH (n:Int):Bool:=decide (97<=n)&&decide (n<=122)
def Qce (n:Int):Bool:=QnH n||(decide (48<=n)&&decide (n<=57))
def QiC (p:Int->Bool) (l:List UInt8):Bool:=l.all fun c=>p (c.toNat:Int)
theorem QdU (s:ByteArray) (k:Nat) (h:k<s.size):s.data.toList.take (k+1)=s.data.toList.take k++[s[k]]:=by
 rw[List.take_succ_eq_append_getElem (by simpa using h)];rfl
theorem Qhs (p:Int->Bool) (l:List UInt8) (c:UInt8):QiC p (l++[c])=(QiC p l&&p (c.toNat:Int)):=by
 simp[QiC]
theorem Qgk (p:Int->Bool) (s:ByteArray) (k:Nat) (h:k<s.size) (y:p (s[k].toNat:Int)=false):QiC p s.data.toList=false:=by
 have:s[k]∈s.data.toList:=by
  have:=List.getElem_mem (l:=s.data.toList) (n:=k) (by simpa using h);exact this
 unfold QiC;rw[List.all_eq_false];exact⟨_,this,by simp[y]⟩
theorem QlA (n:Int) (w:World):Calls Tryz.prog 149 #[.int .u8 n] w fun e w'=>e=.returned (.bool (pwI n))/\w'=w:=by
 go_enter Tryz.func149,Tryz.ntmps149;go_wp2
 all_goals go_ret
 all_goals refine⟨ret_bool ?_,rfl⟩
 all_goals first|(simp[pwI, *];done)|(simp[pwI];omega)
theorem Qfg (n:Int) (w:World):Calls Tryz.prog 66 #[.int .u8 n] w fun e w'=>e=.returned (.bool (QnH n))/\w'=w:=by
 go_enter Tryz.func66,Tryz.ntmps66;go_wp2
 all_goals go_ret
 all_goals refine⟨ret_bool ?_,rfl⟩
 all_goals first|(simp[QnH, *];done)|(simp[QnH];omega)
theorem QlB (n:Int) (w:World):Calls Tryz.prog 63 #[.int .i64 n] w fun e w'=>e=.returned (.bool (n==1||n==2))/\w'=w:=by
 go_enter Tryz.func63,Tryz.ntmps63;go_wp2
 all_goals go_ret
 all_goals refine⟨ret_bool ?_,rfl⟩
 all_goals simp_all
theorem QnI (s:ByteArray) (w:World) (D:s.size<=maxLen):
 Calls Tryz.prog 67 #[.string s,.func (.func 149) #[] #[]] w fun e w'=>e=.returned (.bool (QiC pwI s.data.toList))/\w'=w:=by
 unfold maxLen at D;go_enter Tryz.func67,Tryz.ntmps67;go_wp2
 go_loop [8] (fun i=>∃k:Nat,k<=s.size/\i=.int .i64 k/\QiC pwI (s.data.toList.take k)=true) (fun i=>s.size-(intOf i).toNat)
 case atStart=>exact⟨0,Nat.zero_le _,rfl,rfl⟩
 case round=>
  obtain⟨k,E,rfl,h⟩:=hrel;have y:Hid (QiC pwI (s.data.toList.take k)=true):=h;clear h
  by_cases hlt:k<s.size
  ·cases hp:pwI (s[k].toNat:Int)
   ·go_wp2_with (go_at_call 149;refine(QlA _ _).mono ?_;rintro e w' ⟨rfl,rfl⟩);go_ret;exact⟨ret_bool (Qgk pwI s k hlt hp).symm,rfl⟩
   ·go_wp2_with (go_at_call 149;refine(QlA _ _).mono ?_;rintro e w' ⟨rfl,rfl⟩)
    go_round
    case rel=>exact⟨k+1,by omega,by go_num,by rw[QdU s k hlt,Qhs,y.out,hp];rfl⟩
    case measure=>simp[intOf];omega
  ·go_wp2;go_ret;exact⟨ret_bool (by have:=y.out;rw[List.take_of_length_le (by simp;omega)] at this;exact this.symm),rfl⟩
def Qcy (l:List UInt8):Bool:=decide (l.length<=16)&&QiC pwI l
theorem QgP (s:ByteArray) (w:World) (E:s.size<=maxLen):
 Calls Tryz.prog 104 #[.string s] w fun e w'=>e=.returned (.bool (Qcy s.data.toList))/\w'=w:=by
 have hs':=E;unfold maxLen at hs';have y:s.data.toList.length=s.size:=by simp
 have D:Hid (s.data.toList.length=s.size):=y;clear y
 by_cases h:s.size<=16
 ·go_enter Tryz.func104,Tryz.ntmps104;go_wp2_with (go_at_call 67;refine(QnI _ _ (by omega)).mono ?_;rintro e w' ⟨rfl,rfl⟩);go_ret;exact⟨ret_bool (by have:=D.out;simp only[Qcy,this];simp[h]),rfl⟩
 ·go_enter Tryz.func104,Tryz.ntmps104;go_wp2;go_ret;exact⟨ret_bool (by have:=D.out;simp only[Qcy,this];simp[h]),rfl⟩
def Qao (k n:Int) (l:List UInt8):Bool:=
 if k=1 then decide (-1000000000<=n)&&(decide (n<=1000000000)&&l.isEmpty) else if k=2 then Qcy l&&n==0 else false
theorem Qaa (w:World) (o:Obj):Below w.heap.size w (w.alloc o):=(Below.refl _ _).alloc (Nat.le_refl _) o
theorem Qcc {b:Bool} (h:¬b=true):b=false:=by cases b<;>simp_all
theorem Qbb (k n:Int) (s:ByteArray) (w:World) (h:s.size<=maxLen):
 Calls Tryz.prog 65 #[.agg #[.int .i64 k,.int .i64 n,.string s]] w fun e w'=>e=.returned (.bool (Qao k n s.data.toList))/\Below w.heap.size w w':=by
 go_enter Tryz.func65,Tryz.ntmps65;go_wp2_with (go_at_call 104;refine(QgP _ _ (by omega)).mono ?_;rintro e w' ⟨rfl,rfl⟩)
 all_goals go_ret
 all_goals refine⟨ret_bool ?_,Qaa _ _⟩
 all_goals simp_all [Qao,ByteArray.toList_eq]
 all_goals omega
def Qht (k n:Int) (l:List UInt8) (k' n':Int) (l':List UInt8):Bool:=
 if k != k' then decide (k<k') else if k==1 then decide (n<n') else Op.bytesLess l l'
theorem QnJ (k n:Int) (s:ByteArray) (k' h:Int) (y:ByteArray) (w:World):
 Calls Tryz.prog 170 #[.agg #[.int .i64 k,.int .i64 n,.string s],.agg #[.int .i64 k',.int .i64 h,.string y]] w fun e w'=>e=.returned (.bool (Qht k n s.data.toList k' h y.data.toList))/\Below w.heap.size w w':=by
 go_enter Tryz.func170,Tryz.ntmps170;go_wp2
 all_goals go_ret
 all_goals refine⟨ret_bool ?_,((Below.refl _ _).alloc (Nat.le_refl _) _).alloc (by simp) _⟩
 all_goals simp_all [Qht,ByteArray.toList_eq]
theorem Qhu (n:Int) (a:Addr) (w:World) (h:w.cell? a=some (.func (.func 66) #[] #[])):
 Calls Tryz.prog 68 #[.int .u8 n,.pointer (some a)] w fun e w'=>e=.returned (.bool (Qce n))/\w'=w:=by
 cases h0:QnH n
 all_goals
  go_enter Tryz.func68,Tryz.ntmps68;go_wp2_with (go_at_call 66;refine(Qfg _ _).mono ?_;rintro e w' ⟨rfl,rfl⟩)
 all_goals go_ret
 all_goals refine⟨ret_bool ?_,rfl⟩
 all_goals first|(simp[Qce, *];done)|(simp[Qce,h0];omega)
theorem QnK (s:ByteArray) (a:Addr) (w:World) (E:s.size<=maxLen) (D:w.cell? a=some (.func (.func 66) #[] #[])):
 Calls Tryz.prog 67 #[.string s,.func (.func 68) #[] #[.pointer (some a)]] w fun e w'=>e=.returned (.bool (QiC Qce s.data.toList))/\w'=w:=by
 unfold maxLen at E;go_enter Tryz.func67,Tryz.ntmps67;go_wp2
 go_loop [8] (fun i=>∃k:Nat,k<=s.size/\i=.int .i64 k/\QiC Qce (s.data.toList.take k)=true) (fun i=>s.size-(intOf i).toNat)
 case atStart=>exact⟨0,Nat.zero_le _,rfl,rfl⟩
 case round=>
  obtain⟨k,F,rfl,h⟩:=hrel;have y:Hid (QiC Qce (s.data.toList.take k)=true):=h;clear h
  by_cases hlt:k<s.size
  ·cases hp:Qce (s[k].toNat:Int)
   ·go_wp2_with (go_at_call 68;refine(Qhu _ _ _ D).mono ?_;rintro e w' ⟨rfl,rfl⟩);go_ret;exact⟨ret_bool (Qgk Qce s k hlt hp).symm,rfl⟩
   ·go_wp2_with (go_at_call 68;refine(Qhu _ _ _ D).mono ?_;rintro e w' ⟨rfl,rfl⟩)
    go_round
    case rel=>exact⟨k+1,by omega,by go_num,by rw[QdU s k hlt,Qhs,y.out,hp];rfl⟩
    case measure=>simp[intOf];omega
  ·go_wp2;go_ret;exact⟨ret_bool (by have:=y.out;rw[List.take_of_length_le (by simp;omega)] at this;exact this.symm),rfl⟩
def Qfh (l:List UInt8):Bool:=match l with
 |[]=>false
 |c::_=>decide (l.length<=10)&&(QnH (c.toNat:Int)&&QiC Qce l)
theorem QnL (s:ByteArray) (y:0<s.size):Qfh s.data.toList=(decide (s.size<=10)&&(QnH (s[0].toNat:Int)&&QiC Qce s.data.toList)):=by
 obtain⟨⟨l⟩⟩:=s
 match l,y with
 |c::r,_=>rfl
 |[],h=>exact absurd h (by simp[ByteArray.size])
theorem QnM (s:ByteArray) (w:World) (H:s.size<=maxLen):
 Calls Tryz.prog 32 #[.string s] w fun e w'=>e=.returned (.bool (Qfh s.data.toList))/\Below w.heap.size w w':=by
 have I:=mkF
 by_cases h0:0<s.size
 ·have E:=QnL s h0;have y:Hid (Qfh s.data.toList=(decide (s.size<=10)&&(QnH (s[0].toNat:Int)&&QiC Qce s.data.toList))):=E;clear E;have he:(s.toList.isEmpty)=false:=by
   rw[ByteArray.toList_eq]
   cases h:s.data.toList with
   |nil=>
    have:s.data.toList.length=0:=by rw[h];rfl
    have D:s.size=0:=by simpa using this
    omega
   |cons a b=>rfl
  by_cases h1:s.size<=10
  ·cases D:QnH (s[0].toNat:Int)
   ·go_enter Tryz.func32,Tryz.ntmps32;go_wp2;go_quiet ((go_at_call 66;exact Calls.quiet_of_same (Qfg _ _)));go_wp2;go_ret;exact⟨ret_bool (by rw[y.out];simp[h1,D]),below_drewN (Qaa _ _) _⟩
   ·go_enter Tryz.func32,Tryz.ntmps32;go_wp2
    go_region_with (first|(go_at_call 66;refine(Qfg _ _).mono ?_;rintro e w' ⟨rfl,rfl⟩)|(go_at_call 67;refine(QnK _ _ _ H (by simp)).mono ?_;rintro e w' ⟨rfl,rfl⟩))
    all_goals go_wp2
    all_goals go_ret
    all_goals exact⟨ret_bool (by rw[y.out];simp[h1,D]),(Qaa _ _).drew⟩
  ·go_enter Tryz.func32,Tryz.ntmps32;go_wp2;go_ret;exact⟨ret_bool (by rw[y.out];simp[h1]),Below.refl _ _⟩
 ·have he:s.toList.isEmpty=true:=by
   rw[ByteArray.toList_eq];have:s.data.toList.length=0:=by
    have:s.data.toList.length=s.size:=by simp
    omega
   rw[List.length_eq_zero_iff.1 this];rfl
  have F:Qfh s.data.toList=false:=by
   have:=he;rw[ByteArray.toList_eq,List.isEmpty_iff] at this;rw[this];rfl
  have y:Hid (Qfh s.data.toList=false):=F;clear F;go_enter Tryz.func32,Tryz.ntmps32;go_wp2;go_ret;exact⟨ret_bool y.out.symm,Below.refl _ _⟩
def Qau (w:World) (b o:Nat) (cs:List (ByteArray×Int)):Prop:=
 ∀(j:Nat) (h:j<cs.length),w.cell? ⟨b,o+j*2,none⟩=some (.string cs[j].1)/\w.cell? ⟨b,o+j*2+1,none⟩=some (.int .i64 cs[j].2)
theorem Qau.below {w w':World} {B b o:Nat} {cs:List (ByteArray×Int)} (h:Qau w b o cs) (D:Below B w w') (y:b<B):Qau w' b o cs:=
 fun j hj=>⟨(D.cell (p:=⟨b,o+j*2,none⟩) y).trans (h j hj).1,(D.cell (p:=⟨b,o+j*2+1,none⟩) y).trans (h j hj).2⟩
def Qbl (cs:List (ByteArray×Int)) (nm:List UInt8):Bool:=cs.any fun x=>x.1.data.toList==nm
theorem QiD (cs:List (ByteArray×Int)) (nm:List UInt8) (k:Nat) (h:k<cs.length):Qbl (cs.take (k+1)) nm=(Qbl (cs.take k) nm||cs[k].1.data.toList==nm):=by
 rw[List.take_succ_eq_append_getElem h];simp only[Qbl,List.any_append,List.any_cons,List.any_nil,Bool.or_false]
theorem QiE (cs:List (ByteArray×Int)) (nm:List UInt8) (k:Nat) (h:k<cs.length) (y:(cs[k].1.data.toList==nm)=true):Qbl cs nm=true:=by
 unfold Qbl;rw[List.any_eq_true];exact⟨_,List.getElem_mem h,y⟩
theorem Qkf (b o n c:Nat) (cs:List (ByteArray×Int)) (nm:ByteArray) (w:World) (K:cs.length=n) (N:n<=100) (I:b<w.heap.size) (M:Qau w b o cs):
 Calls Tryz.prog 64 #[.slice (some ⟨b,o,none⟩) n c,.string nm] w fun e w'=>e=.returned (.bool (Qbl cs nm.data.toList))/\Below w.heap.size w w':=by
 have F:Hid (cs.length=n):=K;clear K;go_enter Tryz.func64,Tryz.ntmps64;go_wp2;go_loopw [9] (fun i wr=>∃k:Nat,k<=n/\i=.int .i64 k/\Qbl (cs.take k) nm.data.toList=false/\Below w.heap.size w wr) (fun i _=>n-(intOf i).toNat)
 case atStart=>exact⟨0,Nat.zero_le _,rfl,rfl,Below.refl _ _⟩
 case round=>
  obtain⟨k,U,rfl,D,h⟩:=hrel;have H:Hid (Qbl (cs.take k) nm.data.toList=false):=D;clear D
  by_cases hlt:k<n
  ·have y:k<cs.length:=by have:=F.out;omega
   obtain⟨c1,c2⟩:=M k y;have V:=cK h I c1;have O:=cK h I c2;clear c1 c2
   cases hp:(cs[k].1.toList==nm.toList)
   all_goals have E:=hp
   all_goals rw[ByteArray.toList_eq,ByteArray.toList_eq] at E
   all_goals have J:=Hk E
   all_goals clear E
   ·go_wp2;go_roundw
    case rel=>exact⟨k+1,by omega,by go_num,by rw[QiD cs _ k y,H.out,J.out];rfl,h.alloc h.size _⟩
    case measure=>simp[intOf];omega
   ·go_wp2;go_ret;exact⟨ret_bool (QiE cs _ k y J.out).symm,h.alloc h.size _⟩
  ·go_wp2;go_ret;exact⟨ret_bool (by have:=H.out;rw[List.take_of_length_le (by have:=F.out;omega)] at this;exact this.symm),h⟩
def cutV (q:Bool):List UInt8->List UInt8×List UInt8×Bool
 |[]=>([],[],false)
 |c::r=>
  if c=39 then(c::(cutV (!q) r).1,(cutV (!q) r).2) else
  if c=32/\q=false then([],r,true) else(c::(cutV q r).1,(cutV q r).2)
theorem Qgl {x:ByteArray} {a:List UInt8} (h:x.data.toList=a):x=⟨a.toArray⟩:=by rw[<-h]
theorem Qqj {x y:ByteArray} {m h:Bool} {a b:List UInt8} (D:x.data.toList=a) (E:y.data.toList=b) (F:m=h):Ending.returned (.tuple #[.string x,.string y,.bool m])=.returned (.tuple #[.string ⟨a.toArray⟩,.string ⟨b.toArray⟩,.bool h]):=by
 rw[Qgl D,Qgl E,F]
theorem Qhv (s:ByteArray) (k:Nat):(s.extract 0 k).data.toList=s.data.toList.take k:=by simp[ByteArray.data_extract]
theorem extract_drop (s:ByteArray) (k:Nat):(s.extract k s.size).data.toList=s.data.toList.drop k:=by
 simp only[ByteArray.data_extract,Array.toList_extract];rw[List.extract_eq_take_drop,List.take_of_length_le (by simp)]
def Qeq (l:List UInt8) (k:Nat) (q:Bool):Prop:=cutV false l=(l.take k++(cutV q (l.drop k)).1,(cutV q (l.drop k)).2)
theorem Qkg (l:List UInt8):Qeq l 0 false:=by simp[Qeq]
theorem drop_at (s:ByteArray) (k:Nat) (h:k<s.size):s.data.toList.drop k=s[k]::s.data.toList.drop (k+1):=by
 rw[List.drop_eq_getElem_cons (by simpa using h)];rfl
theorem QiG {s:ByteArray} {k:Nat} {q:Bool} (h:k<s.size) (D:s[k]=39) (y:Qeq s.data.toList k q):Qeq s.data.toList (k+1) (!q):=by
 unfold Qeq at y⊢;rw[y,drop_at s k h,QdU s k h];simp[cutV,D]
theorem Qfi {s:ByteArray} {k:Nat} {q:Bool} (h:k<s.size) (D:s[k]≠39) (E:¬(s[k]=32/\q=false)) (y:Qeq s.data.toList k q):Qeq s.data.toList (k+1) q:=by
 unfold Qeq at y⊢;rw[y,drop_at s k h,QdU s k h];simp only[cutV,D,E,if_false,List.append_assoc];rfl
theorem QiH {s:ByteArray} {k:Nat} {q:Bool} (h:k<s.size) (D:s[k]=32/\q=false) (y:Qeq s.data.toList k q):cutV false s.data.toList=(s.data.toList.take k,s.data.toList.drop (k+1),true):=by
 unfold Qeq at y;rw[y,drop_at s k h];simp[cutV,D]
theorem QlC {s:ByteArray} {q:Bool} (h:Qeq s.data.toList s.size q):cutV false s.data.toList=(s.data.toList,[],false):=by
 unfold Qeq at h;rw[h,List.drop_eq_nil_of_le (by simp),List.take_of_length_le (by simp)];simp[cutV]
theorem QlD {c:UInt8} {n:Nat} (y:n<256) (h:((c.toNat:Int)==(n:Int))=true):c=UInt8.ofNat n:=by
 have h':(c.toNat:Int)=(n:Int):=by simpa using h
 have:c.toNat=n:=by omega
 apply UInt8.toNat_inj.1;rw[this];simp;omega
theorem QiI {c:UInt8} {n:Nat} (h:((c.toNat:Int)==(n:Int))=false):c≠UInt8.ofNat n\/256<=n:=by
 by_cases hn:n<256
 ·left
  intro e;subst e;have:(UInt8.ofNat n).toNat=n:=by simp;omega
  rw[this] at h;simp at h
 ·right;omega
theorem Qhx (s:ByteArray) (w:World) (H:s.size<=maxLen):
 Calls Tryz.prog 87 #[.string s] w fun e w'=>e=.returned (.tuple #[.string ⟨(cutV false s.data.toList).1.toArray⟩,.string ⟨(cutV false s.data.toList).2.1.toArray⟩,.bool (cutV false s.data.toList).2.2])/\Below w.heap.size w w':=by
 unfold maxLen at H;go_enter Tryz.func87,Tryz.ntmps87;go_wp2
 go_loop [5,9] (fun x i=>∃(k:Nat) (q:Bool),k<=s.size/\x=.bool q/\i=.int .i64 k/\Qeq s.data.toList k q) (fun _ i=>s.size-(intOf i).toNat)
 case atStart=>exact⟨0,false,Nat.zero_le _,rfl,rfl,Qkg _⟩
 case round=>
  obtain⟨k,q,I,rfl,rfl,y⟩:=hrel;have D:=Hk y;clear y
  by_cases hlt:k<s.size
  ·cases h1:((s[k].toNat:Int)==39)
   ·cases E:((s[k].toNat:Int)==32)
    ·go_wp2
     go_round
     case rel=>exact⟨k+1,q,by omega,rfl,by go_num,Qfi hlt ((QiI h1).resolve_right (by decide)) (fun e=>((QiI E).resolve_right (by decide)) e.1) D.out⟩
     case measure=>simp[intOf];omega
    ·cases q
     ·go_wp2;go_quiet (fail);go_wp2
      go_ret3
      have h:=QiH hlt ⟨QlD (by decide) E,rfl⟩ D.out;exact⟨Qqj (by rw[h];exact Qhv s k) (by rw[h];exact extract_drop s (k+1)) (by rw[h]),below_drewN (Below.refl _ _) _⟩
     ·go_wp2
      go_round
      case rel=>exact⟨k+1,true,by omega,rfl,by go_num,Qfi hlt ((QiI h1).resolve_right (by decide)) (fun e=>by simp at e) D.out⟩
      case measure=>simp[intOf];omega
   ·have E:((s[k].toNat:Int)==32)=false:=by
     have:(s[k].toNat:Int)=39:=by simpa using h1
     rw[this];rfl
    go_wp2
    go_round
    case rel=>exact⟨k+1, !q,by omega,rfl,by go_num,QiG hlt (QlD (by decide) h1) D.out⟩
    case measure=>simp[intOf];omega
  ·go_wp2
   go_ret3
   have F:k=s.size:=by omega
   have y:=D.out;rw[F] at y;have h:=QlC y;exact⟨Qqj (by rw[h]) (by rw[h]) (by rw[h]),Below.refl _ _⟩
end Go.Proofs.YtjlgejennghhlaaGreatDoor
namespace Go.Proofs
open Go.Shelf
open Go.RowKit
open Go.Sort (grow)
def Tryz.lays156_ren:Go.Shelf.Ren:=⟨fun|156=>194|165=>203|166=>204|169=>205|240=>214|241=>215|276=>222|277=>223|n=>n,fun|31=>44|9=>9|3=>3|4=>4|0=>0|20=>20|72=>285|76=>196|70=>283|37=>263|75=>34|127=>293|164=>168|5=>5|80=>186|n=>n,fun|n=>n⟩
theorem Tryz.lays156:Go.Proofs.Lays.n156 Tryz.prog Tryz.lays156_ren:={
 mixed:=by kernel_rfl
 f156:=Tryz.func194.trans (congrArg some (by kernel_rfl))
 f165:=Tryz.func203.trans (congrArg some (by kernel_rfl))
 f166:=Tryz.func204.trans (congrArg some (by kernel_rfl))
 f169:=Tryz.func205.trans (congrArg some (by kernel_rfl))
 f240:=Tryz.func214.trans (congrArg some (by kernel_rfl))
 f241:=Tryz.func215.trans (congrArg some (by kernel_rfl))
 f276:=Tryz.func222.trans (congrArg some (by kernel_rfl))
 f277:=Tryz.func223.trans (congrArg some (by kernel_rfl))
 t0:=Tryz.underlying0
 a0:=Tryz.isAgg0
 z0:=Tryz.sizeOf0
 v0:=Tryz.zeroValue0
 t3:=Tryz.underlying3
 a3:=Tryz.isAgg3
 z3:=Tryz.sizeOf3
 v3:=Tryz.zeroValue3
 t4:=Tryz.underlying4
 a4:=Tryz.isAgg4
 z4:=Tryz.sizeOf4
 v4:=Tryz.zeroValue4
 t9:=Tryz.underlying9
 a9:=Tryz.isAgg9
 z9:=Tryz.sizeOf9
 v9:=Tryz.zeroValue9
 t20:=Tryz.underlying20
 a20:=Tryz.isAgg20
 z20:=Tryz.sizeOf20
 v20:=Tryz.zeroValue20
 t31:=Tryz.underlying44
 a31:=Tryz.isAgg44
 z31:=Tryz.sizeOf44
 v31:=Tryz.zeroValue44
 t37:=Tryz.underlying263
 a37:=Tryz.isAgg263
 z37:=Tryz.sizeOf263
 v37:=Tryz.zeroValue263
 t70:=Tryz.underlying283
 a70:=Tryz.isAgg283
 z70:=Tryz.sizeOf283
 v70:=Tryz.zeroValue283
 t72:=Tryz.underlying285
 a72:=Tryz.isAgg285
 z72:=Tryz.sizeOf285
 v72:=Tryz.zeroValue285
 t75:=Tryz.underlying34
 a75:=Tryz.isAgg34
 z75:=Tryz.sizeOf34
 v75:=Tryz.zeroValue34
 t76:=Tryz.underlying196
 a76:=Tryz.isAgg196
 z76:=Tryz.sizeOf196
 v76:=Tryz.zeroValue196
 t127:=Tryz.underlying293
 a127:=Tryz.isAgg293
 z127:=Tryz.sizeOf293
 v127:=Tryz.zeroValue293
 t164:=Tryz.underlying168
 a164:=Tryz.isAgg168
 z164:=Tryz.sizeOf168
 v164:=Tryz.zeroValue168}
theorem Tryz.Builder_Extra_156:Builder.Extra Tryz.prog Tryz.lays156_ren:={
 sizeBuilder:=by kernel_rfl
 liesBuilder:=by kernel_rfl
 t5:=Tryz.underlying5
 a5:=Tryz.isAgg5
 z5:=Tryz.sizeOf5
 v5:=Tryz.zeroValue5
 infoByte:=by kernel_rfl
 cellsByte:=by kernel_rfl
 sizeByte:=by kernel_rfl
 neB5:=by decide}
theorem Tryz.strings_Join (D o c:Nat) (xs:List ByteArray) (h:ByteArray) (w:World) (y:∀(j:Nat) x,xs[j]? =some x->w.cell? ⟨D,o+j,none⟩=some (.string x)) (H:D<w.heap.size) (I:xs.length<=140737488355328) (E:xs.length<=c) (F:(Lib.join (xs.map (·.data.toList)) h.data.toList).length<=140737488355328):
 Calls Tryz.prog 194 #[.slice (some ⟨D,o,none⟩) xs.length c,.string h] w fun e w'=>e=.returned (.string ⟨(Lib.join (xs.map (·.data.toList)) h.data.toList).toArray⟩)/\Below w.heap.size w w':=Any.strings_Join Tryz.lays156 Tryz.Builder_Extra_156 D o c xs h w y H I E F
def Tryz.lays137_ren:Go.Shelf.Ren:=⟨fun|137=>108|217=>150|266=>179|n=>n,fun|9=>9|5=>5|3=>3|n=>n,fun|n=>n⟩
theorem Tryz.lays137:Go.Proofs.Lays.n137 Tryz.prog Tryz.lays137_ren:={
 mixed:=by kernel_rfl
 f137:=Tryz.func108.trans (congrArg some (by kernel_rfl))
 f217:=Tryz.func150.trans (congrArg some (by kernel_rfl))
 f266:=Tryz.func179.trans (congrArg some (by kernel_rfl))
 t3:=Tryz.underlying3
 a3:=Tryz.isAgg3
 z3:=Tryz.sizeOf3
 v3:=Tryz.zeroValue3
 t5:=Tryz.underlying5
 a5:=Tryz.isAgg5
 z5:=Tryz.sizeOf5
 v5:=Tryz.zeroValue5
 t9:=Tryz.underlying9
 a9:=Tryz.isAgg9
 z9:=Tryz.sizeOf9
 v9:=Tryz.zeroValue9}
theorem Tryz.strings_IndexByte (s:ByteArray) (c:Int) (w:World):
 Calls Tryz.prog 108 #[.string s,.int .u8 c] w fun e w'=>e=.returned (.int .i64 (Lib.indexByte s.data.toList c.toNat.toUInt8))/\w'=w:=Any.strings_IndexByte Tryz.lays137 s c w
def Tryz.laysM171_ren:Go.Shelf.Ren:=⟨fun|171=>166|243=>191|246=>200|283=>209|284=>210|285=>211|286=>212|129=>217|317=>216|318=>218|319=>219|320=>220|337=>224|338=>225|n=>n,fun|3=>3|9=>9|2=>2|4=>4|171=>297|0=>0|53=>273|37=>263|5=>5|173=>300|212=>303|51=>257|20=>20|213=>304|46=>82|232=>309|233=>310|n=>n,fun|17=>10|18=>11|19=>12|n=>n⟩
theorem Tryz.laysM171:Go.Proofs.LaysM.n171 Tryz.prog Tryz.laysM171_ren:={
 mixed:=by kernel_rfl
 f129:=Tryz.func217.trans (congrArg some (by kernel_rfl))
 f171:=Tryz.func166.trans (congrArg some (by kernel_rfl))
 f243:=Tryz.func191.trans (congrArg some (by kernel_rfl))
 f246:=Tryz.func200.trans (congrArg some (by kernel_rfl))
 f283:=Tryz.func209.trans (congrArg some (by kernel_rfl))
 f284:=Tryz.func210.trans (congrArg some (by kernel_rfl))
 f285:=Tryz.func211.trans (congrArg some (by kernel_rfl))
 f286:=Tryz.func212.trans (congrArg some (by kernel_rfl))
 f317:=Tryz.func216.trans (congrArg some (by kernel_rfl))
 f318:=Tryz.func218.trans (congrArg some (by kernel_rfl))
 f319:=Tryz.func219.trans (congrArg some (by kernel_rfl))
 f320:=Tryz.func220.trans (congrArg some (by kernel_rfl))
 f337:=Tryz.func224.trans (congrArg some (by kernel_rfl))
 f338:=Tryz.func225.trans (congrArg some (by kernel_rfl))
 t0:=Tryz.underlying0
 a0:=Tryz.isAgg0
 z0:=Tryz.sizeOf0
 v0:=Tryz.zeroValue0
 t2:=Tryz.underlying2
 a2:=Tryz.isAgg2
 z2:=Tryz.sizeOf2
 v2:=Tryz.zeroValue2
 t3:=Tryz.underlying3
 a3:=Tryz.isAgg3
 z3:=Tryz.sizeOf3
 v3:=Tryz.zeroValue3
 t4:=Tryz.underlying4
 a4:=Tryz.isAgg4
 z4:=Tryz.sizeOf4
 v4:=Tryz.zeroValue4
 t5:=Tryz.underlying5
 a5:=Tryz.isAgg5
 z5:=Tryz.sizeOf5
 v5:=Tryz.zeroValue5
 t9:=Tryz.underlying9
 a9:=Tryz.isAgg9
 z9:=Tryz.sizeOf9
 v9:=Tryz.zeroValue9
 t20:=Tryz.underlying20
 a20:=Tryz.isAgg20
 z20:=Tryz.sizeOf20
 v20:=Tryz.zeroValue20
 t37:=Tryz.underlying263
 a37:=Tryz.isAgg263
 z37:=Tryz.sizeOf263
 v37:=Tryz.zeroValue263
 t46:=Tryz.underlying82
 a46:=Tryz.isAgg82
 z46:=Tryz.sizeOf82
 v46:=Tryz.zeroValue82
 t51:=Tryz.underlying257
 a51:=Tryz.isAgg257
 z51:=Tryz.sizeOf257
 v51:=Tryz.zeroValue257
 t53:=Tryz.underlying273
 a53:=Tryz.isAgg273
 z53:=Tryz.sizeOf273
 v53:=Tryz.zeroValue273
 t171:=Tryz.underlying297
 a171:=Tryz.isAgg297
 z171:=Tryz.sizeOf297
 v171:=Tryz.zeroValue297
 t173:=Tryz.underlying300
 a173:=Tryz.isAgg300
 z173:=Tryz.sizeOf300
 v173:=Tryz.zeroValue300
 t212:=Tryz.underlying303
 a212:=Tryz.isAgg303
 z212:=Tryz.sizeOf303
 v212:=Tryz.zeroValue303
 t213:=Tryz.underlying304
 a213:=Tryz.isAgg304
 z213:=Tryz.sizeOf304
 t232:=Tryz.underlying309
 a232:=Tryz.isAgg309
 z232:=Tryz.sizeOf309
 v232:=Tryz.zeroValue309
 t233:=Tryz.underlying310
 a233:=Tryz.isAgg310
 z233:=Tryz.sizeOf310
 v233:=Tryz.zeroValue310
 g17:=by kernel_rfl
 g18:=by kernel_rfl
 g19:=by kernel_rfl
 i0:=by kernel_rfl
 i2:=by kernel_rfl
 i3:=by kernel_rfl
 i4:=by kernel_rfl
 i5:=by kernel_rfl
 i9:=by kernel_rfl
 i20:=by kernel_rfl
 i37:=by kernel_rfl
 i46:=by kernel_rfl
 i51:=by kernel_rfl
 i53:=by kernel_rfl
 i171:=by kernel_rfl
 i173:=by kernel_rfl
 i212:=by kernel_rfl
 i232:=by kernel_rfl
 i233:=by kernel_rfl
 m17:=by kernel_rfl
 m18:=by kernel_rfl
 m19:=by kernel_rfl}
theorem Tryz.strconv_Itoa (n:Int) (D: -9223372036854775808<=n) (y:n<=9223372036854775807) (w:World) (h:Lib.TabIs Tryz.prog w "internal/strconv.uint64pow10" .u64 Lib.pow10Tab):
 Calls Tryz.prog 166 #[.int .i64 n] w fun e w'=>e=.returned (.string ⟨(Lib.itoa n).toArray⟩)/\∃k os,w'=grow (w.drewN k) os:=Any.strconv_Itoa Tryz.laysM171 n D y w h
def Tryz.laysC172_ren:Go.Shelf.Ren:=⟨fun|172=>121|244=>164|245=>165|247=>186|279=>187|280=>188|281=>189|282=>190|287=>197|316=>198|171=>166|205=>199|321=>207|322=>208|243=>191|246=>200|283=>209|284=>210|285=>211|286=>212|129=>217|317=>216|318=>218|319=>219|320=>220|337=>224|338=>225|n=>n,fun|9=>9|3=>3|75=>34|76=>196|4=>4|5=>5|167=>262|37=>263|0=>0|85=>264|2=>2|168=>266|53=>273|175=>274|46=>82|210=>278|127=>293|145=>296|143=>294|21=>21|171=>297|173=>300|212=>303|51=>257|20=>20|213=>304|232=>309|233=>310|80=>186|n=>n,fun|15=>6|16=>7|17=>10|18=>11|19=>12|n=>n⟩
theorem Tryz.laysC172:Go.Proofs.LaysC.n172 Tryz.prog Tryz.laysC172_ren:={
 mixed:=by kernel_rfl
 f129:=Tryz.func217.trans (congrArg some (by kernel_rfl))
 f171:=Tryz.func166.trans (congrArg some (by kernel_rfl))
 f172:=Tryz.func121.trans (congrArg some (by kernel_rfl))
 f205:=Tryz.func199.trans (congrArg some (by kernel_rfl))
 f243:=Tryz.func191.trans (congrArg some (by kernel_rfl))
 f244:=Tryz.func164.trans (congrArg some (by kernel_rfl))
 f245:=Tryz.func165.trans (congrArg some (by kernel_rfl))
 f246:=Tryz.func200.trans (congrArg some (by kernel_rfl))
 f247:=Tryz.func186.trans (congrArg some (by kernel_rfl))
 f279:=Tryz.func187.trans (congrArg some (by kernel_rfl))
 f280:=Tryz.func188.trans (congrArg some (by kernel_rfl))
 f281:=Tryz.func189.trans (congrArg some (by kernel_rfl))
 f282:=Tryz.func190.trans (congrArg some (by kernel_rfl))
 f283:=Tryz.func209.trans (congrArg some (by kernel_rfl))
 f284:=Tryz.func210.trans (congrArg some (by kernel_rfl))
 f285:=Tryz.func211.trans (congrArg some (by kernel_rfl))
 f286:=Tryz.func212.trans (congrArg some (by kernel_rfl))
 f287:=Tryz.func197.trans (congrArg some (by kernel_rfl))
 f316:=Tryz.func198.trans (congrArg some (by kernel_rfl))
 f317:=Tryz.func216.trans (congrArg some (by kernel_rfl))
 f318:=Tryz.func218.trans (congrArg some (by kernel_rfl))
 f319:=Tryz.func219.trans (congrArg some (by kernel_rfl))
 f320:=Tryz.func220.trans (congrArg some (by kernel_rfl))
 f321:=Tryz.func207.trans (congrArg some (by kernel_rfl))
 f322:=Tryz.func208.trans (congrArg some (by kernel_rfl))
 f337:=Tryz.func224.trans (congrArg some (by kernel_rfl))
 f338:=Tryz.func225.trans (congrArg some (by kernel_rfl))
 t0:=Tryz.underlying0
 a0:=Tryz.isAgg0
 z0:=Tryz.sizeOf0
 v0:=Tryz.zeroValue0
 t2:=Tryz.underlying2
 a2:=Tryz.isAgg2
 z2:=Tryz.sizeOf2
 v2:=Tryz.zeroValue2
 t3:=Tryz.underlying3
 a3:=Tryz.isAgg3
 z3:=Tryz.sizeOf3
 v3:=Tryz.zeroValue3
 t4:=Tryz.underlying4
 a4:=Tryz.isAgg4
 z4:=Tryz.sizeOf4
 v4:=Tryz.zeroValue4
 t5:=Tryz.underlying5
 a5:=Tryz.isAgg5
 z5:=Tryz.sizeOf5
 v5:=Tryz.zeroValue5
 t9:=Tryz.underlying9
 a9:=Tryz.isAgg9
 z9:=Tryz.sizeOf9
 v9:=Tryz.zeroValue9
 t20:=Tryz.underlying20
 a20:=Tryz.isAgg20
 z20:=Tryz.sizeOf20
 v20:=Tryz.zeroValue20
 t21:=Tryz.underlying21
 a21:=Tryz.isAgg21
 z21:=Tryz.sizeOf21
 v21:=Tryz.zeroValue21
 t37:=Tryz.underlying263
 a37:=Tryz.isAgg263
 z37:=Tryz.sizeOf263
 v37:=Tryz.zeroValue263
 t46:=Tryz.underlying82
 a46:=Tryz.isAgg82
 z46:=Tryz.sizeOf82
 v46:=Tryz.zeroValue82
 t51:=Tryz.underlying257
 a51:=Tryz.isAgg257
 z51:=Tryz.sizeOf257
 v51:=Tryz.zeroValue257
 t53:=Tryz.underlying273
 a53:=Tryz.isAgg273
 z53:=Tryz.sizeOf273
 v53:=Tryz.zeroValue273
 t75:=Tryz.underlying34
 a75:=Tryz.isAgg34
 z75:=Tryz.sizeOf34
 v75:=Tryz.zeroValue34
 t76:=Tryz.underlying196
 a76:=Tryz.isAgg196
 z76:=Tryz.sizeOf196
 v76:=Tryz.zeroValue196
 t85:=Tryz.underlying264
 a85:=Tryz.isAgg264
 z85:=Tryz.sizeOf264
 v85:=Tryz.zeroValue264
 t127:=Tryz.underlying293
 a127:=Tryz.isAgg293
 z127:=Tryz.sizeOf293
 v127:=Tryz.zeroValue293
 t143:=Tryz.underlying294
 a143:=Tryz.isAgg294
 z143:=Tryz.sizeOf294
 v143:=Tryz.zeroValue294
 t145:=Tryz.underlying296
 a145:=Tryz.isAgg296
 z145:=Tryz.sizeOf296
 v145:=Tryz.zeroValue296
 t167:=Tryz.underlying262
 a167:=Tryz.isAgg262
 z167:=Tryz.sizeOf262
 v167:=Tryz.zeroValue262
 t168:=Tryz.underlying266
 a168:=Tryz.isAgg266
 z168:=Tryz.sizeOf266
 v168:=Tryz.zeroValue266
 t171:=Tryz.underlying297
 a171:=Tryz.isAgg297
 z171:=Tryz.sizeOf297
 v171:=Tryz.zeroValue297
 t173:=Tryz.underlying300
 a173:=Tryz.isAgg300
 z173:=Tryz.sizeOf300
 v173:=Tryz.zeroValue300
 t175:=Tryz.underlying274
 a175:=Tryz.isAgg274
 z175:=Tryz.sizeOf274
 v175:=Tryz.zeroValue274
 t210:=Tryz.underlying278
 a210:=Tryz.isAgg278
 z210:=Tryz.sizeOf278
 v210:=Tryz.zeroValue278
 t212:=Tryz.underlying303
 a212:=Tryz.isAgg303
 z212:=Tryz.sizeOf303
 v212:=Tryz.zeroValue303
 t213:=Tryz.underlying304
 a213:=Tryz.isAgg304
 z213:=Tryz.sizeOf304
 t232:=Tryz.underlying309
 a232:=Tryz.isAgg309
 z232:=Tryz.sizeOf309
 v232:=Tryz.zeroValue309
 t233:=Tryz.underlying310
 a233:=Tryz.isAgg310
 z233:=Tryz.sizeOf310
 v233:=Tryz.zeroValue310
 g15:=by kernel_rfl
 g16:=by kernel_rfl
 g17:=by kernel_rfl
 g18:=by kernel_rfl
 g19:=by kernel_rfl
 t80:=Tryz.underlying186
 a80:=Tryz.isAgg186
 z80:=Tryz.sizeOf186
 v80:=Tryz.zeroValue186
 i0:=by kernel_rfl
 i2:=by kernel_rfl
 i3:=by kernel_rfl
 i4:=by kernel_rfl
 i5:=by kernel_rfl
 i9:=by kernel_rfl
 i20:=by kernel_rfl
 i21:=by kernel_rfl
 i37:=by kernel_rfl
 i46:=by kernel_rfl
 i51:=by kernel_rfl
 i53:=by kernel_rfl
 i75:=by kernel_rfl
 i76:=by kernel_rfl
 i80:=by kernel_rfl
 i85:=by kernel_rfl
 i127:=by kernel_rfl
 i143:=by kernel_rfl
 i145:=by kernel_rfl
 i167:=by kernel_rfl
 i168:=by kernel_rfl
 i171:=by kernel_rfl
 i173:=by kernel_rfl
 i175:=by kernel_rfl
 i210:=by kernel_rfl
 i212:=by kernel_rfl
 i232:=by kernel_rfl
 i233:=by kernel_rfl
 m15:=by kernel_rfl
 m16:=by kernel_rfl
 m17:=by kernel_rfl
 m18:=by kernel_rfl
 m19:=by kernel_rfl
 c0:=by kernel_rfl
 c2:=by kernel_rfl
 c3:=by kernel_rfl
 c4:=by kernel_rfl
 c5:=by kernel_rfl
 c9:=by kernel_rfl
 c20:=by kernel_rfl
 c21:=by kernel_rfl
 c37:=by kernel_rfl
 c46:=by kernel_rfl
 c51:=by kernel_rfl
 c53:=by kernel_rfl
 c75:=by kernel_rfl
 c76:=by kernel_rfl
 c80:=by kernel_rfl
 c85:=by kernel_rfl
 c127:=by kernel_rfl
 c143:=by kernel_rfl
 c145:=by kernel_rfl
 c167:=by kernel_rfl
 c168:=by kernel_rfl
 c171:=by kernel_rfl
 c173:=by kernel_rfl
 c175:=by kernel_rfl
 c210:=by kernel_rfl
 c212:=by kernel_rfl
 c213:=by kernel_rfl
 c232:=by kernel_rfl
 c233:=by kernel_rfl}
theorem Tryz.strconv_Atoi_ok (s:ByteArray) (y:s.size<=9223372036854775806) (v:Int) (h:Lib.atoiAll s.data.toList=.ok v) (w:World):
 Calls Tryz.prog 121 #[.string s] w fun e w'=>e=.returned (.tuple #[.int .i64 v,.nilIface])/\(w'=w\/∃t,w'=Lib.bytesWorld w 5 t):=Any.strconv_Atoi_ok Tryz.laysC172 s y v h w
theorem Tryz.strconv_Atoi_syntax_var (s:ByteArray) (E:s.size<=281474976710656) (h:Lib.atoiAll s.data.toList=Lib.atoiAll []) (D:TypeId) (p:Value) (w:World) (y:w.var? Tryz.prog "strconv.ErrSyntax"=some #[.iface D p]):
 Calls Tryz.prog 121 #[.string s] w fun e w'=>∃N,e=.returned (.tuple #[.int .i64 0,.iface 266 (.pointer (some ⟨N,0,none⟩))])/\w.heap.size<=N/\w'.heap[N]? =some (.cells #[.string ⟨#[65,116,111,105]⟩,.string s,.iface D p] 278 (0,0))/\Below w.heap.size w w':=Any.strconv_Atoi_syntax_var Tryz.laysC172 s E h D p w y
theorem Tryz.strconv_Atoi_range_var (s:ByteArray) (E:s.size<=281474976710656) (h:Lib.atoiAll s.data.toList=.range) (D:TypeId) (p:Value) (w:World) (y:w.var? Tryz.prog "strconv.ErrRange"=some #[.iface D p]):
 Calls Tryz.prog 121 #[.string s] w fun e w'=>∃N,e=.returned (.tuple #[.int .i64 (Lib.atoiSat s.data.toList),.iface 266 (.pointer (some ⟨N,0,none⟩))])/\w.heap.size<=N/\w'.heap[N]? =some (.cells #[.string ⟨#[65,116,111,105]⟩,.string s,.iface D p] 278 (0,0))/\Below w.heap.size w w':=Any.strconv_Atoi_range_var Tryz.laysC172 s E h D p w y
def Tryz.lays145_ren:Go.Shelf.Ren:=⟨fun|145=>47|220=>84|219=>118|217=>150|225=>157|224=>158|267=>159|266=>179|314=>181|n=>n,fun|9=>9|4=>4|59=>107|3=>3|5=>5|46=>82|146=>258|51=>257|n=>n,fun|1=>4|n=>n⟩
theorem Tryz.lays145:Go.Proofs.Lays.n145 Tryz.prog Tryz.lays145_ren:={
 mixed:=by kernel_rfl
 f145:=Tryz.func47.trans (congrArg some (by kernel_rfl))
 f217:=Tryz.func150.trans (congrArg some (by kernel_rfl))
 f219:=Tryz.func118.trans (congrArg some (by kernel_rfl))
 f220:=Tryz.func84.trans (congrArg some (by kernel_rfl))
 f224:=Tryz.func158.trans (congrArg some (by kernel_rfl))
 f225:=Tryz.func157.trans (congrArg some (by kernel_rfl))
 f266:=Tryz.func179.trans (congrArg some (by kernel_rfl))
 f267:=Tryz.func159.trans (congrArg some (by kernel_rfl))
 f314:=Tryz.func181.trans (congrArg some (by kernel_rfl))
 t3:=Tryz.underlying3
 a3:=Tryz.isAgg3
 z3:=Tryz.sizeOf3
 v3:=Tryz.zeroValue3
 t4:=Tryz.underlying4
 a4:=Tryz.isAgg4
 z4:=Tryz.sizeOf4
 v4:=Tryz.zeroValue4
 t5:=Tryz.underlying5
 a5:=Tryz.isAgg5
 z5:=Tryz.sizeOf5
 v5:=Tryz.zeroValue5
 t9:=Tryz.underlying9
 a9:=Tryz.isAgg9
 z9:=Tryz.sizeOf9
 v9:=Tryz.zeroValue9
 t46:=Tryz.underlying82
 a46:=Tryz.isAgg82
 z46:=Tryz.sizeOf82
 v46:=Tryz.zeroValue82
 t51:=Tryz.underlying257
 a51:=Tryz.isAgg257
 z51:=Tryz.sizeOf257
 v51:=Tryz.zeroValue257
 t59:=Tryz.underlying107
 a59:=Tryz.isAgg107
 z59:=Tryz.sizeOf107
 v59:=Tryz.zeroValue107
 t146:=Tryz.underlying258
 a146:=Tryz.isAgg258
 z146:=Tryz.sizeOf258
 v146:=Tryz.zeroValue258
 g1:=by kernel_rfl}
theorem Tryz.strings_Cut (s h:ByteArray) (m:Int) (w:World) (y:s.size<4294967281) (D:w.cell? ⟨4,0,none⟩=some (.int .i64 m)):
 Calls Tryz.prog 47 #[.string s,.string h] w fun e w'=>e=.returned (.tuple #[.string ⟨(Lib.cut s.data.toList h.data.toList).1.toArray⟩,.string ⟨(Lib.cut s.data.toList h.data.toList).2.1.toArray⟩,.bool (Lib.cut s.data.toList h.data.toList).2.2])/\∃n,w'=w.drewN n:=Any.strings_Cut Tryz.lays145 s h m w y D
def Tryz.lays99_ren:Go.Shelf.Ren:=⟨fun|99=>109|206=>151|n=>n,fun|9=>9|4=>4|3=>3|n=>n,fun|n=>n⟩
theorem Tryz.lays99:Go.Proofs.Lays.n99 Tryz.prog Tryz.lays99_ren:={
 mixed:=by kernel_rfl
 f99:=Tryz.func109.trans (congrArg some (by kernel_rfl))
 f206:=Tryz.func151.trans (congrArg some (by kernel_rfl))
 t3:=Tryz.underlying3
 a3:=Tryz.isAgg3
 z3:=Tryz.sizeOf3
 v3:=Tryz.zeroValue3
 t4:=Tryz.underlying4
 a4:=Tryz.isAgg4
 z4:=Tryz.sizeOf4
 v4:=Tryz.zeroValue4
 t9:=Tryz.underlying9
 a9:=Tryz.isAgg9
 z9:=Tryz.sizeOf9
 v9:=Tryz.zeroValue9}
theorem Tryz.strings_HasPrefix (s p:ByteArray) (w:World):
 Calls Tryz.prog 109 #[.string s,.string p] w fun e w'=>e=.returned (.bool (Lib.hasPrefix s.data.toList p.data.toList))/\w'=w:=Any.strings_HasPrefix Tryz.lays99 s p w
def Tryz.lays102_ren:Go.Shelf.Ren:=⟨fun|102=>120|209=>163|207=>185|n=>n,fun|9=>9|4=>4|3=>3|n=>n,fun|n=>n⟩
theorem Tryz.lays102:Go.Proofs.Lays.n102 Tryz.prog Tryz.lays102_ren:={
 mixed:=by kernel_rfl
 f102:=Tryz.func120.trans (congrArg some (by kernel_rfl))
 f207:=Tryz.func185.trans (congrArg some (by kernel_rfl))
 f209:=Tryz.func163.trans (congrArg some (by kernel_rfl))
 t3:=Tryz.underlying3
 a3:=Tryz.isAgg3
 z3:=Tryz.sizeOf3
 v3:=Tryz.zeroValue3
 t4:=Tryz.underlying4
 a4:=Tryz.isAgg4
 z4:=Tryz.sizeOf4
 v4:=Tryz.zeroValue4
 t9:=Tryz.underlying9
 a9:=Tryz.isAgg9
 z9:=Tryz.sizeOf9
 v9:=Tryz.zeroValue9}
theorem Tryz.strings_TrimSuffix (s p:ByteArray) (w:World) (h:s.size<=9223372036854775807):
 Calls Tryz.prog 120 #[.string s,.string p] w fun e w'=>e=.returned (.string ⟨(Lib.trimSuffix s.data.toList p.data.toList).toArray⟩)/\w'=w:=Any.strings_TrimSuffix Tryz.lays102 s p w h
def Tryz.lays147_ren:Go.Shelf.Ren:=⟨fun|147=>85|221=>119|268=>160|138=>161|143=>162|195=>182|197=>183|218=>184|219=>118|260=>196|217=>150|225=>157|224=>158|267=>159|266=>179|314=>181|n=>n,fun|9=>9|3=>3|31=>44|4=>4|0=>0|105=>260|21=>21|5=>5|46=>82|119=>288|139=>291|138=>290|146=>258|51=>257|n=>n,fun|1=>4|3=>8|4=>9|n=>n⟩
theorem Tryz.lays147:Go.Proofs.Lays.n147 Tryz.prog Tryz.lays147_ren:={
 mixed:=by kernel_rfl
 f138:=Tryz.func161.trans (congrArg some (by kernel_rfl))
 f143:=Tryz.func162.trans (congrArg some (by kernel_rfl))
 f147:=Tryz.func85.trans (congrArg some (by kernel_rfl))
 f195:=Tryz.func182.trans (congrArg some (by kernel_rfl))
 f197:=Tryz.func183.trans (congrArg some (by kernel_rfl))
 f217:=Tryz.func150.trans (congrArg some (by kernel_rfl))
 f218:=Tryz.func184.trans (congrArg some (by kernel_rfl))
 f219:=Tryz.func118.trans (congrArg some (by kernel_rfl))
 f221:=Tryz.func119.trans (congrArg some (by kernel_rfl))
 f224:=Tryz.func158.trans (congrArg some (by kernel_rfl))
 f225:=Tryz.func157.trans (congrArg some (by kernel_rfl))
 f260:=Tryz.func196.trans (congrArg some (by kernel_rfl))
 f266:=Tryz.func179.trans (congrArg some (by kernel_rfl))
 f267:=Tryz.func159.trans (congrArg some (by kernel_rfl))
 f268:=Tryz.func160.trans (congrArg some (by kernel_rfl))
 f314:=Tryz.func181.trans (congrArg some (by kernel_rfl))
 t0:=Tryz.underlying0
 a0:=Tryz.isAgg0
 z0:=Tryz.sizeOf0
 v0:=Tryz.zeroValue0
 t3:=Tryz.underlying3
 a3:=Tryz.isAgg3
 z3:=Tryz.sizeOf3
 v3:=Tryz.zeroValue3
 t4:=Tryz.underlying4
 a4:=Tryz.isAgg4
 z4:=Tryz.sizeOf4
 v4:=Tryz.zeroValue4
 t5:=Tryz.underlying5
 a5:=Tryz.isAgg5
 z5:=Tryz.sizeOf5
 v5:=Tryz.zeroValue5
 t9:=Tryz.underlying9
 a9:=Tryz.isAgg9
 z9:=Tryz.sizeOf9
 v9:=Tryz.zeroValue9
 t21:=Tryz.underlying21
 a21:=Tryz.isAgg21
 z21:=Tryz.sizeOf21
 v21:=Tryz.zeroValue21
 t31:=Tryz.underlying44
 a31:=Tryz.isAgg44
 z31:=Tryz.sizeOf44
 v31:=Tryz.zeroValue44
 t46:=Tryz.underlying82
 a46:=Tryz.isAgg82
 z46:=Tryz.sizeOf82
 v46:=Tryz.zeroValue82
 t51:=Tryz.underlying257
 a51:=Tryz.isAgg257
 z51:=Tryz.sizeOf257
 v51:=Tryz.zeroValue257
 t105:=Tryz.underlying260
 a105:=Tryz.isAgg260
 z105:=Tryz.sizeOf260
 v105:=Tryz.zeroValue260
 t119:=Tryz.underlying288
 a119:=Tryz.isAgg288
 z119:=Tryz.sizeOf288
 t138:=Tryz.underlying290
 a138:=Tryz.isAgg290
 z138:=Tryz.sizeOf290
 v138:=Tryz.zeroValue290
 t139:=Tryz.underlying291
 a139:=Tryz.isAgg291
 z139:=Tryz.sizeOf291
 v139:=Tryz.zeroValue291
 t146:=Tryz.underlying258
 a146:=Tryz.isAgg258
 z146:=Tryz.sizeOf258
 v146:=Tryz.zeroValue258
 g1:=by kernel_rfl
 g3:=by kernel_rfl
 g4:=by kernel_rfl}
theorem Tryz.strings_SplitN (s h:ByteArray) (n:Nat) (m:Int) (w:World) (F:s.size<4294967281) (D:w.cell? ⟨4,0,none⟩=some (.int .i64 m)) (E:1<=h.size) (H:1<=n) (y:n<=9223372036854775807):
 Calls Tryz.prog 85 #[.string s,.string h,.int .i64 n] w fun e w'=>
  e=.returned (.slice (some ⟨w.heap.size,0,none⟩) (Lib.splitB h 0 (min n (s.size+1)-1) s).length (min n (s.size+1)))/\w'=w.alloc (.cells (Lib.cellsOf (Lib.splitB h 0 (min n (s.size+1)-1) s) (min n (s.size+1))) 9):=Any.strings_SplitN Tryz.lays147 (by kernel_rfl) s h n m w F D E H y
end Go.Proofs
namespace Go.Proofs.YtjlgejennghhlaaGreatDoor
open Go.RowKit
theorem QaQ {W y:World} (D:Below W.heap.size W y):(∀b o,b<W.heap.size->y.cell? ⟨b,o,none⟩=W.cell? ⟨b,o,none⟩)/\(∀b o,b<W.heap.size->y.frozen? ⟨b,o,none⟩=W.frozen? ⟨b,o,none⟩):=
 ⟨fun b o h=>D.cell (p:=⟨b,o,none⟩) h,fun b o h=>D.frozen (p:=⟨b,o,none⟩) h⟩
theorem Qpu {P:Program} {f:FuncId} {args:Array Value} {w:World} {v:Value} (h:Calls P f args w fun e w'=>e=.returned v/\w'=w):Calls P f args w fun e w'=>e=.returned v/\Below w.heap.size w w':=
 h.mono fun _ _ x=>⟨x.1,by rw[x.2];exact Below.refl _ _⟩
def Qhy (n:Int):Bool:=n==1||n==2
def Qcz (seen:List (ByteArray×Int)):List (ByteArray×Int)->Bool
 |[]=>true
 |c::r=>Qfh c.1.data.toList&&(Qhy c.2&&(!Qbl seen c.1.data.toList&&Qcz (seen++[c]) r))
def Qaj (cs:List (ByteArray×Int)):Bool:=decide (1<=cs.length)&&(decide (cs.length<=6)&&Qcz [] cs)
theorem QiJ (cs:List (ByteArray×Int)) (k:Nat) (h:k<cs.length):Qcz (cs.take k) (cs.drop k)=(Qfh cs[k].1.data.toList&&(Qhy cs[k].2&&(!Qbl (cs.take k) cs[k].1.data.toList&&Qcz (cs.take (k+1)) (cs.drop (k+1))))):=by
 rw[List.drop_eq_getElem_cons h,List.take_succ_eq_append_getElem h];rfl
theorem Qau.take {w:World} {b o:Nat} {cs:List (ByteArray×Int)} (h:Qau w b o cs) (k:Nat):Qau w b o (cs.take k):=fun j y=>by
 have hj':j<cs.length:=by rw[List.length_take] at y;omega
 have:=h j hj';rw[List.getElem_take];exact this
theorem Qkh (n:Int) (w:World):Calls Tryz.prog 63 #[.int .i64 n] w fun e w'=>e=.returned (.bool (Qhy n))/\w'=w:=QlB n w
theorem Qhz (b o n c:Nat) (cs:List (ByteArray×Int)) (w:World) (Z:cs.length=n) (h1:1<=n) (h6:n<=6) (ai:n<=c) (V:b<w.heap.size) (hc:Qau w b o cs) (hs:∀x∈cs,x.1.size<=maxLen):
 Calls Tryz.prog 30 #[.slice (some ⟨b,o,none⟩) n c] w fun e w'=>e=.returned (.bool (Qaj cs))/\Below w.heap.size w w':=by
 have hr:Qaj cs=Qcz [] cs:=by simp[Qaj,Z,h1,h6]
 have M:=Hk hr;have HN:=Hk Z;clear hr Z;have e0:((n:Int)==0)=false:=by simp;omega
 go_enter Tryz.func30,Tryz.ntmps30;go_wp2;go_loopw [15] (fun i wr=>∃k:Nat,k<=n/\i=.int .i64 k/\Qcz [] cs=Qcz (cs.take k) (cs.drop k)/\Below w.heap.size w wr) (fun i _=>n-(intOf i).toNat)
 case atStart=>exact⟨0,Nat.zero_le _,rfl,rfl,Below.refl _ _⟩
 case round=>
  obtain⟨k,hk,rfl,U,h⟩:=hrel;have K:=Hk U;clear U
  by_cases hlt:k<n
  ·have J:k<cs.length:=by have:=HN.out;omega
   obtain⟨c1,c2⟩:=hc k J;have d1:=cK h V c1;have d2:=cK h V c2;clear c1 c2;have ad:b<wr.heap.size:=by have:=h.size;omega
   have aa:cs[k].1.size<=maxLen:=hs _ (List.getElem_mem J);have ac:Qau wr b o (cs.take k):=(hc.below h V).take k;have O:(cs.take k).length=k:=by rw[List.length_take];omega
   have ab:=Hk O;clear O;have N:=Hk (QiJ cs k J);have k1:=cell_regrown (w:=wr.alloc (.cells #[.string cs[k].1,.int .i64 cs[k].2] 64)) (a:=⟨wr.heap.size,0,none⟩) (v:=.string cs[k].1) (by simp);have k2:=cell_regrown (w:=wr.alloc (.cells #[.string cs[k].1,.int .i64 cs[k].2] 64)) (a:=⟨wr.heap.size,1,none⟩) (v:=.int .i64 cs[k].2) (by simp);have F:∀d os,_:=fun d os=>Calls.regrown_of (QnM cs[k].1 (Sort.grow (redrawn (wr.alloc (.cells #[.string cs[k].1,.int .i64 cs[k].2] 64)) d) os) aa)
   have cK:∀d os,_:=fun d os=>Calls.regrown_of (Qpu (Qkh cs[k].2 (Sort.grow (redrawn (wr.alloc (.cells #[.string cs[k].1,.int .i64 cs[k].2] 64)) d) os)))
   have H:∀d os,_:=fun d os=>Calls.regrown_of (Qkf b o k c (cs.take k) cs[k].1 (Sort.grow (redrawn (wr.alloc (.cells #[.string cs[k].1,.int .i64 cs[k].2] 64)) d) os) ab.out (by omega) (by simp[Sort.grow,redrawn];omega) ((ac.below (Qaa _ _) ad).below (below_regrown _ _ _) (by simp;omega)))
   cases g1:Qfh cs[k].1.data.toList
   ·simp only[g1] at F;go_wp2;refine wp_region_quiet_below (by kernel_rfl) (by kernel_rfl) ?_
    repeat(any_goals(first|go_big_quiet_step (first|exact F _ _|exact cK _ _|exact H _ _)|quiet_step (first|exact F _ _|exact cK _ _|exact H _ _)))
    refine wpQuiet_nil ?_;intro _ E;obtain⟨⟨I,D⟩,y⟩:=E;subst y;go_wp2;go_ret;exact⟨ret_bool (by rw[M.out,K.out,N.out,g1];rfl),h.trans ((Qaa _ _).mono h.size|>.trans ((below_regrown _ I D).mono (by simp;have:=h.size;omega)))⟩
   ·simp only[g1] at F
    cases g2:Qhy cs[k].2
    ·simp only[g2] at cK;go_wp2;refine wp_region_quiet_below (by kernel_rfl) (by kernel_rfl) ?_
     repeat(any_goals(first|go_big_quiet_step (first|exact F _ _|exact cK _ _|exact H _ _)|quiet_step (first|exact F _ _|exact cK _ _|exact H _ _)))
     refine wpQuiet_nil ?_;intro _ E;obtain⟨⟨I,D⟩,y⟩:=E;subst y;go_wp2;go_ret;exact⟨ret_bool (by rw[M.out,K.out,N.out,g1,g2];rfl),h.trans ((Qaa _ _).mono h.size|>.trans ((below_regrown _ I D).mono (by simp;have:=h.size;omega)))⟩
    ·simp only[g2] at cK;have al:(k:Int)<=(c:Int):=by omega
     cases g3:Qbl (cs.take k) cs[k].1.data.toList
     all_goals simp only[g3] at H
     all_goals
      go_wp2;refine wp_region_quiet_below (by kernel_rfl) (by kernel_rfl) ?_
      repeat(any_goals(first|go_big_quiet_step (first|exact F _ _|exact cK _ _|exact H _ _)|quiet_step (first|exact F _ _|exact cK _ _|exact H _ _)))
      refine wpQuiet_nil ?_;intro _ E;obtain⟨⟨I,D⟩,y⟩:=E;subst y
     ·go_wp2;go_roundw
      case rel=>exact⟨k+1,by omega,by go_num,by rw[K.out,N.out,g1,g2,g3];rfl,h.trans ((Qaa _ _).mono h.size|>.trans ((below_regrown _ I D).mono (by simp;have:=h.size;omega)))⟩
      case measure=>simp[intOf];omega
     ·go_wp2;go_ret;exact⟨ret_bool (by rw[M.out,K.out,N.out,g1,g2,g3];rfl),h.trans ((Qaa _ _).mono h.size|>.trans ((below_regrown _ I D).mono (by simp;have:=h.size;omega)))⟩
  ·go_wp2;go_ret;exact⟨ret_bool (by rw[M.out,K.out,List.drop_eq_nil_of_le (by have:=HN.out;omega)];rfl),h⟩
abbrev Vl:=Int×Int×ByteArray
abbrev Cl:=ByteArray×Int
def QaS (w:World) (b o:Nat) (vs:List Vl):Prop:=
 ∀(j:Nat) (h:j<vs.length),w.cell? ⟨b,o+j*3,none⟩=some (.int .i64 vs[j].1)/\w.cell? ⟨b,o+j*3+1,none⟩=some (.int .i64 vs[j].2.1)/\w.cell? ⟨b,o+j*3+2,none⟩=some (.string vs[j].2.2)
theorem QaS.below {w w':World} {B b o:Nat} {E:List Vl} (h:QaS w b o E) (D:Below B w w') (y:b<B):QaS w' b o E:=
 fun j hj=>⟨(D.cell (p:=⟨b,o+j*3,none⟩) y).trans (h j hj).1,(D.cell (p:=⟨b,o+j*3+1,none⟩) y).trans (h j hj).2.1,(D.cell (p:=⟨b,o+j*3+2,none⟩) y).trans (h j hj).2.2⟩
def Qax (w:World) (v:Value) (cs:List Cl):Prop:=
 ∃a c,v=.slice a cs.length c/\cs.length<=c/\(∀x∈cs,x.1.size<=maxLen)/\(cs=[]\/∃b o,a=some ⟨b,o,none⟩/\b<w.heap.size/\Qau w b o cs)
def QcA (w:World) (v:Value) (vs:List Vl):Prop:=
 ∃a c,v=.slice a vs.length c/\(∀x∈vs,x.2.2.size<=maxLen)/\(vs=[]\/∃b o,a=some ⟨b,o,none⟩/\b<w.heap.size/\QaS w b o vs)
def QdD (w:World) (b o:Nat) (rs:List (List Vl)):Prop:=∀(j:Nat) (h:j<rs.length),∃u,w.cell? ⟨b,o+j,none⟩=some u/\QcA w u rs[j]
def QaG (w:World) (v:Value) (rs:List (List Vl)):Prop:=
 ∃a c,v=.slice a rs.length c/\(rs=[]\/∃b o,a=some ⟨b,o,none⟩/\b<w.heap.size/\QdD w b o rs)
theorem Qax.below {w w':World} {v:Value} {cs:List Cl} (h:Qax w v cs) (D:Below w.heap.size w w'):Qax w' v cs:=by
 obtain⟨a,c,e,H,F,h⟩:=h;refine⟨a,c,e,H,F,?_⟩;rcases h with h|⟨b,o,I,y,E⟩
 ·exact Or.inl h
 ·exact Or.inr ⟨b,o,I,Nat.lt_of_lt_of_le y D.size,E.below D y⟩
theorem QcA.below {w w':World} {v:Value} {y:List Vl} (h:QcA w v y) (E:Below w.heap.size w w'):QcA w' v y:=by
 obtain⟨a,c,e,H,h⟩:=h;refine⟨a,c,e,H,?_⟩;rcases h with h|⟨b,o,I,D,F⟩
 ·exact Or.inl h
 ·exact Or.inr ⟨b,o,I,Nat.lt_of_lt_of_le D E.size,F.below E D⟩
theorem QdD.below {w w':World} {b o:Nat} {rs:List (List Vl)} (h:QdD w b o rs) (y:Below w.heap.size w w') (E:b<w.heap.size):QdD w' b o rs:=fun j hj=>by
 obtain⟨u,D,F⟩:=h j hj;exact⟨u,cK y E D,F.below y⟩
theorem QaG.below {w w':World} {v:Value} {rs:List (List Vl)} (h:QaG w v rs) (D:Below w.heap.size w w'):QaG w' v rs:=by
 obtain⟨a,c,e,h⟩:=h;refine⟨a,c,e,?_⟩;rcases h with h|⟨b,o,F,y,E⟩
 ·exact Or.inl h
 ·exact Or.inr ⟨b,o,F,Nat.lt_of_lt_of_le y D.size,E.below D y⟩
theorem Qb7 (v:Value) (cs:List Cl) (w:World) (h:Qax w v cs):
 Calls Tryz.prog 30 #[v] w fun e w'=>e=.returned (.bool (Qaj cs))/\Below w.heap.size w w':=by
 obtain⟨a,c,rfl,I,D,h⟩:=h
 by_cases h1:1<=cs.length
 ·by_cases h6:cs.length<=6
  ·rcases h with h|⟨b,o,rfl,H,F⟩
   ·rw[h] at h1;simp at h1
   ·exact Qhz b o cs.length c cs w rfl h1 h6 I H F D
  ·have y:Qaj cs=false:=by simp[Qaj,h6]
   rw[y];clear y h D;generalize cs.length=n at*;have J:((n:Int)==0)=false:=by simp;omega
   go_enter Tryz.func30,Tryz.ntmps30;go_wp2;go_ret;exact⟨rfl,Below.refl _ _⟩
 ·have y:Qaj cs=false:=by simp[Qaj,h1]
  have E:cs.length=0:=by omega
  rw[y,E];clear y h D E;go_enter Tryz.func30,Tryz.ntmps30;go_wp2;go_ret;exact⟨rfl,Below.refl _ _⟩
def rvB (x:Vl):Bool:=Qao x.1 x.2.1 x.2.2.data.toList
def QaO:List Vl->List Cl->Bool
 |[],[]=>true
 |v::r,c::q=>v.1==c.2&&(rvB v&&QaO r q)
 |_,_=>false
theorem Qdp:∀(y:List Vl) (cs:List Cl),y.length≠cs.length->QaO y cs=false
 |[],[],h=>absurd rfl h
 |[],_::_,_=>rfl
 |_::_,[],_=>rfl
 |v::r,c::q,h=>by
  rw[QaO,Qdp r q (by simpa using h)];simp
theorem Qki (y:List Vl) (cs:List Cl) (k:Nat) (h:k<y.length) (D:k<cs.length):QaO (y.drop k) (cs.drop k)=(y[k].1==cs[k].2&&(rvB y[k]&&QaO (y.drop (k+1)) (cs.drop (k+1)))):=by
 rw[List.drop_eq_getElem_cons h,List.drop_eq_getElem_cons D];rfl
theorem QgQ (x:Vl) (w:World) (h:x.2.2.size<=maxLen):
 Calls Tryz.prog 65 #[.agg #[.int .i64 x.1,.int .i64 x.2.1,.string x.2.2]] w fun e w'=>e=.returned (.bool (rvB x))/\Below w.heap.size w w':=Qbb _ _ _ _ h
theorem QgR (a D:Option Addr) (n c y E:Nat) (w:World) (h:n≠y):
 Calls Tryz.prog 31 #[.slice a n c,.slice D y E] w fun e w'=>e=.returned (.bool false)/\Below w.heap.size w w':=by
 have F:((n:Int) != (y:Int))=true:=by simp;omega
 go_enter Tryz.func31,Tryz.ntmps31;go_wp2;go_ret;exact⟨rfl,Below.refl _ _⟩
theorem QiK (b o c F M c' n:Nat) (h:List Vl) (cs:List Cl) (w:World) (hn:h.length=n) (O:cs.length=n) (h6:n<=100) (Z:b<w.heap.size) (ae:F<w.heap.size) (hv:QaS w b o h) (hc:Qau w F M cs) (hs:∀x∈h,x.2.2.size<=maxLen):
 Calls Tryz.prog 31 #[.slice (some ⟨b,o,none⟩) n c,.slice (some ⟨F,M,none⟩) n c'] w fun e w'=>e=.returned (.bool (QaO h cs))/\Below w.heap.size w w':=by
 have HN:=Hk hn;have HN':=Hk O;clear hn O;go_enter Tryz.func31,Tryz.ntmps31;go_wp2;go_loopw [14] (fun i wr=>∃k:Nat,k<=n/\i=.int .i64 k/\QaO h cs=QaO (h.drop k) (cs.drop k)/\Below w.heap.size w wr) (fun i _=>n-(intOf i).toNat)
 case atStart=>exact⟨0,Nat.zero_le _,rfl,rfl,Below.refl _ _⟩
 case round=>
  obtain⟨k,hk,rfl,V,y⟩:=hrel;have K:=Hk V;clear V
  by_cases hlt:k<n
  ·have I:k<h.length:=by have:=HN.out;omega
   have U:k<cs.length:=by have:=HN'.out;omega
   obtain⟨c1,c2,c3⟩:=hv k I;have d1:=cK y Z c1;have d2:=cK y Z c2;have d3:=cK y Z c3;obtain⟨_,c5⟩:=hc k U;have d5:=cK y ae c5;clear c1 c2 c3 c5;have hbr':F<wr.heap.size:=by have:=y.size;omega
   have ab:h[k].2.2.size<=maxLen:=hs _ (List.getElem_mem I);have HS:=Hk (Qki h cs k I U);have k1:=cell_regrown (w:=wr.alloc (.cells #[.int .i64 h[k].1,.int .i64 h[k].2.1,.string h[k].2.2] 46)) (a:=⟨wr.heap.size,0,none⟩) (v:=.int .i64 h[k].1) (by simp);have k2:=cell_regrown (w:=wr.alloc (.cells #[.int .i64 h[k].1,.int .i64 h[k].2.1,.string h[k].2.2] 46)) (a:=⟨wr.heap.size,1,none⟩) (v:=.int .i64 h[k].2.1) (by simp);have k3:=cell_regrown (w:=wr.alloc (.cells #[.int .i64 h[k].1,.int .i64 h[k].2.1,.string h[k].2.2] 46)) (a:=⟨wr.heap.size,2,none⟩) (v:=.string h[k].2.2) (by simp);have k5:=cell_regrown (w:=wr.alloc (.cells #[.int .i64 h[k].1,.int .i64 h[k].2.1,.string h[k].2.2] 46)) (a:=⟨F,M+k*2+1,none⟩) (v:=.int .i64 cs[k].2) (by rw[World.cell?_alloc_past _ _ _ hbr'];exact d5);have J:∀d os,_:=fun d os=>Calls.regrown_of (QgQ h[k] (Sort.grow (redrawn (wr.alloc (.cells #[.int .i64 h[k].1,.int .i64 h[k].2.1,.string h[k].2.2] 46)) d) os) ab)
   cases g1:(h[k].1 != cs[k].2)
   ·cases g2:rvB h[k]
    all_goals simp only[g2] at J
    all_goals
     go_wp2;refine wp_region_quiet_below (by kernel_rfl) (by kernel_rfl) ?_
     repeat(any_goals(first|go_big_quiet_step (exact J _ _)|quiet_step (exact J _ _)))
     refine wpQuiet_nil ?_;intro _ H;obtain⟨⟨N,E⟩,D⟩:=H;subst D
    ·go_wp2;go_ret;exact⟨ret_bool (by rw[K.out,HS.out,g2];simp),y.trans ((Qaa _ _).mono y.size|>.trans ((below_regrown _ N E).mono (by simp;have:=y.size;omega)))⟩
    ·go_wp2;go_roundw
     case rel=>exact⟨k+1,by omega,by go_num,by rw[K.out,HS.out,g2];simp only[bne_eq_false_iff_eq] at g1;rw[g1];simp,y.trans ((Qaa _ _).mono y.size|>.trans ((below_regrown _ N E).mono (by simp;have:=y.size;omega)))⟩
     case measure=>simp[intOf];omega
   ·go_wp2;refine wp_region_quiet_below (by kernel_rfl) (by kernel_rfl) ?_
    repeat(any_goals(first|go_big_quiet_step (exact J _ _)|quiet_step (exact J _ _)))
    refine wpQuiet_nil ?_;intro _ H;obtain⟨⟨N,E⟩,D⟩:=H;subst D;go_wp2;go_ret;exact⟨ret_bool (by rw[K.out,HS.out];simp only[bne_iff_ne] at g1;simp[g1]),y.trans ((Qaa _ _).mono y.size|>.trans ((below_regrown _ N E).mono (by simp;have:=y.size;omega)))⟩
  ·go_wp2;go_ret;exact⟨ret_bool (by rw[K.out,List.drop_eq_nil_of_le (by have:=HN.out;omega),List.drop_eq_nil_of_le (by have:=HN'.out;omega)];rfl),y⟩
end Go.Proofs.YtjlgejennghhlaaGreatDoor
