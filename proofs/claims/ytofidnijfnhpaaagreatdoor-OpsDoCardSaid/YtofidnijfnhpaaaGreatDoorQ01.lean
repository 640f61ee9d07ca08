import Derived.Test.YtofidnijfnhpaaaGreatDoorProg
import Derived.Below
import Derived.WalkKit
import Derived.WalkSpells
import Derived.WalkLawsBesides
import Derived.Deep.QuietTactic
import Derived.BigQuiet
import Derived.Deep.RegionWith
import Derived.Deep.DeepFit
import Derived.Laws.EntriesVeiled
set_option linter.unusedSimpArgs false
set_option linter.unusedVariables false
set_option linter.unusedSectionVars false
set_option maxRecDepth 1000000
set_option maxHeartbeats 16000000
namespace Go.Proofs.YtofidnijfnhpaaaGreatDoor
open Go.RowKit
theorem Ai {a b:Prop} (x:a) (y:b):a ∧ b:=⟨x,y⟩
theorem Hk {p:Prop} (h:p):Hid p:=h
theorem cK {n k x:Nat} {i:Option Nat} {w w':World} {v:Value} (h:Below n w w') (hb:k<n) (e:w.cell? ⟨k,x,i⟩=some v):w'.cell? ⟨k,x,i⟩=some v:=(h.cell hb).trans e
theorem mkF (fn:Fn) (first cap:Array Value) (w:World):(Instr.makeFunc fn first cap).run Tryz.prog w=.ok (.func fn first cap) w:=rfl
theorem Qal {a b:Bool} (h:a=b):Ending.returned (.bool a)=.returned (.bool b):=by rw[h]
theorem QcK {k:IntKind} {a b:Int} (h:a=b):Ending.returned (.int k a)=.returned (.int k b):=by rw[h]
def pwI (n:Int):Bool:=decide (32<=n)&&(decide (n<=126)&&n != 39)
def Qfx (n:Int):Bool:=decide (97<=n)&&decide (n<=122)
def QaS (n:Int):Bool:=Qfx n||(decide (48<=n)&&decide (n<=57))
def Qdj (p:Int->Bool) (l:List UInt8):Bool:=l.all fun c=>p (c.toNat:Int)
theorem Qdl (s:ByteArray) (k:Nat) (h:k<s.size):s.data.toList.take (k+1)=s.data.toList.take k++[s[k]]:=by
 rw[List.take_succ_eq_append_getElem (by simpa using h)];rfl
theorem Qek (p:Int->Bool) (l:List UInt8) (c:UInt8):Qdj p (l++[c])=(Qdj p l&&p (c.toNat:Int)):=by
 simp[Qdj]
theorem QdI (p:Int->Bool) (s:ByteArray) (k:Nat) (h:k<s.size) (j:p (s[k].toNat:Int)=false):Qdj p s.data.toList=false:=by
 have:s[k]∈s.data.toList:=by
  have:=List.getElem_mem (l:=s.data.toList) (n:=k) (by simpa using h)
  exact this
 unfold Qdj
 rw[List.all_eq_false]
 exact⟨_,this,by simp[j]⟩
theorem Qi8 (n:Int) (w:World):Calls Tryz.prog 134 #[.int .u8 n] w fun e w'=>e=.returned (.bool (pwI n))/\w'=w:=by
 go_enter Tryz.func134,Tryz.ntmps134
 go_wp2
 all_goals go_ret
 all_goals refine⟨Qal ?_,rfl⟩
 all_goals first|(simp[pwI, *];done)|(simp[pwI];omega)
theorem Qel (n:Int) (w:World):Calls Tryz.prog 117 #[.int .u8 n] w fun e w'=>e=.returned (.bool (Qfx n))/\w'=w:=by
 go_enter Tryz.func117,Tryz.ntmps117
 go_wp2
 all_goals go_ret
 all_goals refine⟨Qal ?_,rfl⟩
 all_goals first|(simp[Qfx, *];done)|(simp[Qfx];omega)
theorem Qi9 (n:Int) (w:World):Calls Tryz.prog 88 #[.int .i64 n] w fun e w'=>e=.returned (.bool (n==1||n==2))/\w'=w:=by
 go_enter Tryz.func88,Tryz.ntmps88
 go_wp2
 all_goals go_ret
 all_goals refine⟨Qal ?_,rfl⟩
 all_goals simp_all
theorem Qkn (s:ByteArray) (w:World) (q:s.size<=maxLen):
 Calls Tryz.prog 118 #[.string s,.func (.func 134) #[] #[]] w fun e j=>e=.returned (.bool (Qdj pwI s.data.toList))/\j=w:=by
 unfold maxLen at q
 go_enter Tryz.func118,Tryz.ntmps118
 go_wp2
 go_loop [8] (fun i=>∃k:Nat,k<=s.size/\i=.int .i64 k/\Qdj pwI (s.data.toList.take k)=true) (fun i=>s.size-(intOf i).toNat)
 case atStart=>exact⟨0,Nat.zero_le _,rfl,rfl⟩
 case round=>
  obtain⟨k,y,rfl,h⟩:=hrel
  have o:Hid (Qdj pwI (s.data.toList.take k)=true):=h
  clear h
  by_cases hlt:k<s.size
  ·cases hp:pwI (s[k].toNat:Int)
   ·go_wp2_with (go_at_call 134;refine(Qi8 _ _).mono ?_;rintro e j ⟨rfl,rfl⟩)
    go_ret
    exact⟨Qal (QdI pwI s k hlt hp).symm,rfl⟩
   ·go_wp2_with (go_at_call 134;refine(Qi8 _ _).mono ?_;rintro e j ⟨rfl,rfl⟩)
    go_round
    case rel=>exact⟨k+1,by omega,by go_num,by rw[Qdl s k hlt,Qek,o.out,hp];rfl⟩
    case measure=>simp[intOf];omega
  ·go_wp2
   go_ret
   exact⟨Qal (by have:=o.out;rw[List.take_of_length_le (by simp;omega)] at this;exact this.symm),rfl⟩
def QbP (l:List UInt8):Bool:=decide (l.length<=16)&&Qdj pwI l
theorem Qfy (s:ByteArray) (w:World) (y:s.size<=maxLen):
 Calls Tryz.prog 120 #[.string s] w fun e o=>e=.returned (.bool (QbP s.data.toList))/\o=w:=by
 have hs':=y
 unfold maxLen at hs'
 have j:s.data.toList.length=s.size:=by simp
 have q:Hid (s.data.toList.length=s.size):=j
 clear j
 by_cases h:s.size<=16
 ·go_enter Tryz.func120,Tryz.ntmps120
  go_wp2_with (go_at_call 118;refine(Qkn _ _ (by omega)).mono ?_;rintro e o ⟨rfl,rfl⟩)
  go_ret
  exact⟨Qal (by have:=q.out;simp only[QbP,this];simp[h]),rfl⟩
 ·go_enter Tryz.func120,Tryz.ntmps120
  go_wp2
  go_ret
  exact⟨Qal (by have:=q.out;simp only[QbP,this];simp[h]),rfl⟩
def Qat (k n:Int) (l:List UInt8):Bool:=
 if k=1 then decide (-1000000000<=n)&&(decide (n<=1000000000)&&l.isEmpty) else if k=2 then QbP l&&n==0 else false
theorem Qab (w:World) (o:Obj):Below w.heap.size w (w.alloc o):=(Below.refl _ _).alloc (Nat.le_refl _) o
theorem Qb6 {b:Bool} (h:¬b=true):b=false:=by cases b<;>simp_all
theorem Qc9 (k n:Int) (s:ByteArray) (w:World) (j:s.size<=maxLen):
 Calls Tryz.prog 90 #[.agg #[.int .i64 k,.int .i64 n,.string s]] w fun e h=>e=.returned (.bool (Qat k n s.data.toList))/\Below w.heap.size w h:=by
 go_enter Tryz.func90,Tryz.ntmps90
 go_wp2_with (go_at_call 120;refine(Qfy _ _ (by omega)).mono ?_;rintro e h ⟨rfl,rfl⟩)
 all_goals go_ret
 all_goals refine⟨Qal ?_,Qab _ _⟩
 all_goals simp_all [Qat,ByteArray.toList_eq]
 all_goals omega
def QcJ (k n:Int) (l:List UInt8) (k' n':Int) (l':List UInt8):Bool:=
 if k != k' then decide (k<k') else if k==1 then decide (n<n') else Op.bytesLess l l'
theorem Qko (k n:Int) (s:ByteArray) (h j:Int) (o:ByteArray) (w:World):
 Calls Tryz.prog 92 #[.agg #[.int .i64 k,.int .i64 n,.string s],.agg #[.int .i64 h,.int .i64 j,.string o]] w fun e w'=>e=.returned (.bool (QcJ k n s.data.toList h j o.data.toList))/\Below w.heap.size w w':=by
 go_enter Tryz.func92,Tryz.ntmps92
 go_wp2
 all_goals go_ret
 all_goals refine⟨Qal ?_,((Below.refl _ _).alloc (Nat.le_refl _) _).alloc (by simp) _⟩
 all_goals simp_all [QcJ,ByteArray.toList_eq]
theorem Qgb (n:Int) (a:Addr) (w:World) (j:w.cell? a=some (.func (.func 117) #[] #[])):
 Calls Tryz.prog 119 #[.int .u8 n,.pointer (some a)] w fun e h=>e=.returned (.bool (QaS n))/\h=w:=by
 cases h0:Qfx n
 all_goals
  go_enter Tryz.func119,Tryz.ntmps119
  go_wp2_with (go_at_call 117;refine(Qel _ _).mono ?_;rintro e h ⟨rfl,rfl⟩)
 all_goals go_ret
 all_goals refine⟨Qal ?_,rfl⟩
 all_goals first|(simp[QaS, *];done)|(simp[QaS,h0];omega)
theorem Qkp (s:ByteArray) (a:Addr) (w:World) (y:s.size<=maxLen) (q:w.cell? a=some (.func (.func 117) #[] #[])):
 Calls Tryz.prog 118 #[.string s,.func (.func 119) #[] #[.pointer (some a)]] w fun e j=>e=.returned (.bool (Qdj QaS s.data.toList))/\j=w:=by
 unfold maxLen at y
 go_enter Tryz.func118,Tryz.ntmps118
 go_wp2
 go_loop [8] (fun i=>∃k:Nat,k<=s.size/\i=.int .i64 k/\Qdj QaS (s.data.toList.take k)=true) (fun i=>s.size-(intOf i).toNat)
 case atStart=>exact⟨0,Nat.zero_le _,rfl,rfl⟩
 case round=>
  obtain⟨k,z,rfl,h⟩:=hrel
  have o:Hid (Qdj QaS (s.data.toList.take k)=true):=h
  clear h
  by_cases hlt:k<s.size
  ·cases hp:QaS (s[k].toNat:Int)
   ·go_wp2_with (go_at_call 119;refine(Qgb _ _ _ q).mono ?_;rintro e j ⟨rfl,rfl⟩)
    go_ret
    exact⟨Qal (QdI QaS s k hlt hp).symm,rfl⟩
   ·go_wp2_with (go_at_call 119;refine(Qgb _ _ _ q).mono ?_;rintro e j ⟨rfl,rfl⟩)
    go_round
    case rel=>exact⟨k+1,by omega,by go_num,by rw[Qdl s k hlt,Qek,o.out,hp];rfl⟩
    case measure=>simp[intOf];omega
  ·go_wp2
   go_ret
   exact⟨Qal (by have:=o.out;rw[List.take_of_length_le (by simp;omega)] at this;exact this.symm),rfl⟩
def Qd9 (l:List UInt8):Bool:=match l with
 |[]=>false
 |c::_=>decide (l.length<=10)&&(Qfx (c.toNat:Int)&&Qdj QaS l)
theorem Qkq (s:ByteArray) (j:0<s.size):Qd9 s.data.toList=(decide (s.size<=10)&&(Qfx (s[0].toNat:Int)&&Qdj QaS s.data.toList)):=by
 obtain⟨⟨l⟩⟩:=s
 match l,j with
 |c::r,_=>rfl
 |[],h=>exact absurd h (by simp[ByteArray.size])
theorem Qkr (s:ByteArray) (w:World) (A:s.size<=maxLen):
 Calls Tryz.prog 87 #[.string s] w fun e o=>e=.returned (.bool (Qd9 s.data.toList))/\Below w.heap.size w o:=by
 have B:=mkF
 by_cases h0:0<s.size
 ·have y:=Qkq s h0
  have j:Hid (Qd9 s.data.toList=(decide (s.size<=10)&&(Qfx (s[0].toNat:Int)&&Qdj QaS s.data.toList))):=y
  clear y
  have he:(s.toList.isEmpty)=false:=by
   rw[ByteArray.toList_eq]
   cases h:s.data.toList with
   |nil=>
    have:s.data.toList.length=0:=by rw[h];rfl
    have q:s.size=0:=by simpa using this
    omega
   |cons a b=>rfl
  by_cases h1:s.size<=10
  ·cases q:Qfx (s[0].toNat:Int)
   ·go_enter Tryz.func87,Tryz.ntmps87
    go_wp2
    go_quiet ((go_at_call 117;exact Calls.quiet_of_same (Qel _ _)))
    go_wp2
    go_ret
    exact⟨Qal (by rw[j.out];simp[h1,q]),below_drewN (Qab _ _) _⟩
   ·go_enter Tryz.func87,Tryz.ntmps87
    go_wp2
    go_region_with (first|(go_at_call 117;refine(Qel _ _).mono ?_;rintro e o ⟨rfl,rfl⟩)|(go_at_call 118;refine(Qkp _ _ _ A (by simp)).mono ?_;rintro e o ⟨rfl,rfl⟩))
    all_goals go_wp2
    all_goals go_ret
    all_goals exact⟨Qal (by rw[j.out];simp[h1,q]),(Qab _ _).drew⟩
  ·go_enter Tryz.func87,Tryz.ntmps87
   go_wp2
   go_ret
   exact⟨Qal (by rw[j.out];simp[h1]),Below.refl _ _⟩
 ·have he:s.toList.isEmpty=true:=by
   rw[ByteArray.toList_eq]
   have:s.data.toList.length=0:=by
    have:s.data.toList.length=s.size:=by simp
    omega
   rw[List.length_eq_zero_iff.1 this];rfl
  have z:Qd9 s.data.toList=false:=by
   have:=he
   rw[ByteArray.toList_eq,List.isEmpty_iff] at this
   rw[this];rfl
  have j:Hid (Qd9 s.data.toList=false):=z
  clear z
  go_enter Tryz.func87,Tryz.ntmps87
  go_wp2
  go_ret
  exact⟨Qal j.out.symm,Below.refl _ _⟩
def Qas (w:World) (b o:Nat) (cs:List (ByteArray×Int)):Prop:=
 ∀(j:Nat) (h:j<cs.length),w.cell? ⟨b,o+j*2,none⟩=some (.string cs[j].1)/\w.cell? ⟨b,o+j*2+1,none⟩=some (.int .i64 cs[j].2)
theorem Qas.below {w z:World} {B b o:Nat} {cs:List (ByteArray×Int)} (h:Qas w b o cs) (q:Below B w z) (y:b<B):Qas z b o cs:=
 fun j hj=>⟨(q.cell (p:=⟨b,o+j*2,none⟩) y).trans (h j hj).1,(q.cell (p:=⟨b,o+j*2+1,none⟩) y).trans (h j hj).2⟩
def Qbw (cs:List (ByteArray×Int)) (nm:List UInt8):Bool:=cs.any fun x=>x.1.data.toList==nm
theorem Qg2 (cs:List (ByteArray×Int)) (j:List UInt8) (k:Nat) (h:k<cs.length):Qbw (cs.take (k+1)) j=(Qbw (cs.take k) j||cs[k].1.data.toList==j):=by
 rw[List.take_succ_eq_append_getElem h];simp only[Qbw,List.any_append,List.any_cons,List.any_nil,Bool.or_false]
theorem Qg3 (cs:List (ByteArray×Int)) (j:List UInt8) (k:Nat) (h:k<cs.length) (o:(cs[k].1.data.toList==j)=true):Qbw cs j=true:=by
 unfold Qbw
 rw[List.any_eq_true]
 exact⟨_,List.getElem_mem h,o⟩
theorem Qij (b o n c:Nat) (cs:List (ByteArray×Int)) (q:ByteArray) (w:World) (F:cs.length=n) (J:n<=100) (D:b<w.heap.size) (I:Qas w b o cs):
 Calls Tryz.prog 89 #[.slice (some ⟨b,o,none⟩) n c,.string q] w fun e w'=>e=.returned (.bool (Qbw cs q.data.toList))/\Below w.heap.size w w':=by
 have A:Hid (cs.length=n):=F
 clear F
 go_enter Tryz.func89,Tryz.ntmps89
 go_wp2
 go_loopw [9] (fun i wr=>∃k:Nat,k<=n/\i=.int .i64 k/\Qbw (cs.take k) q.data.toList=false/\Below w.heap.size w wr) (fun i _=>n-(intOf i).toNat)
 case atStart=>exact⟨0,Nat.zero_le _,rfl,rfl,Below.refl _ _⟩
 case round=>
  obtain⟨k,K,rfl,y,h⟩:=hrel
  have B:Hid (Qbw (cs.take k) q.data.toList=false):=y
  clear y
  by_cases hlt:k<n
  ·have j:k<cs.length:=by have:=A.out;omega
   obtain⟨c1,c2⟩:=I k j
   have d1:=cK h D c1
   have d2:=cK h D c2
   clear c1 c2
   cases hp:(cs[k].1.toList==q.toList)
   all_goals have z:=hp
   all_goals rw[ByteArray.toList_eq,ByteArray.toList_eq] at z
   all_goals have E:=Hk z
   all_goals clear z
   ·go_wp2
    go_roundw
    case rel=>exact⟨k+1,by omega,by go_num,by rw[Qg2 cs _ k j,B.out,E.out];rfl,h.alloc h.size _⟩
    case measure=>simp[intOf];omega
   ·go_wp2
    go_ret
    exact⟨Qal (Qg3 cs _ k j E.out).symm,h.alloc h.size _⟩
  ·go_wp2
   go_ret
   exact⟨Qal (by have:=B.out;rw[List.take_of_length_le (by have:=A.out;omega)] at this;exact this.symm),h⟩
theorem Qe3 {x:ByteArray} {a:List UInt8} (h:x.data.toList=a):x=⟨a.toArray⟩:=by rw[<-h]
end Go.Proofs.YtofidnijfnhpaaaGreatDoor
