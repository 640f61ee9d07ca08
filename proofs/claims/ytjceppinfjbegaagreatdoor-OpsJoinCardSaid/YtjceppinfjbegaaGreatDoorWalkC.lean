import Derived.Test.YtjceppinfjbegaaGreatDoorProg
import Derived.WalkKit
import Derived.WalkSpells
import Derived.WalkLawsBesides
import Derived.Deep.QuietTactic
import Derived.BigQuiet
import Derived.Deep.RegionWith
import Derived.Deep.DeepFit
import Derived.Laws.EntriesVeiled
set_option linter.unusedSimpArgs false
set_option linter.unusedVariables false
namespace Go.Proofs.YtjceppinfjbegaaGreatDoor
open Go.RowKit

theorem ret_bool {a b : Bool} (h : a = b) : Ending.returned (.bool a) = .returned (.bool b) := by rw [h]
theorem ret_int {k : IntKind} {a b : Int} (h : a = b) : Ending.returned (.int k a) = .returned (.int k b) := by rw [h]

def pwI (n : Int) : Bool := decide (32 ≤ n) && (decide (n ≤ 126) && n != 39)
def lowI (n : Int) : Bool := decide (97 ≤ n) && decide (n ≤ 122)
def lowdigI (n : Int) : Bool := lowI n || (decide (48 ≤ n) && decide (n ≤ 57))
def allI (p : Int → Bool) (l : List UInt8) : Bool := l.all fun c => p (c.toNat : Int)

theorem take_snoc (s : ByteArray) (k : Nat) (h : k < s.size) : s.data.toList.take (k + 1) = s.data.toList.take k ++ [s[k]] := by
  rw [List.take_succ_eq_append_getElem (by simpa using h)]; rfl
theorem allI_snoc (p : Int → Bool) (l : List UInt8) (c : UInt8) : allI p (l ++ [c]) = (allI p l && p (c.toNat : Int)) := by
  simp [allI]
theorem allI_false (p : Int → Bool) (s : ByteArray) (k : Nat) (h : k < s.size) (hp : p (s[k].toNat : Int) = false) : allI p s.data.toList = false := by
  have : s[k] ∈ s.data.toList := by
    have := List.getElem_mem (l := s.data.toList) (n := k) (by simpa using h)
    exact this
  unfold allI
  rw [List.all_eq_false]
  exact ⟨_, this, by simp [hp]⟩

set_option maxHeartbeats 400000 in
theorem rw1_any (n : Int) (w : World) : Calls Tryz.prog 170 #[.int .u8 n] w fun e w' => e = .returned (.bool (pwI n)) ∧ w' = w := by
  go_enter Tryz.func170, Tryz.ntmps170
  go_wp2
  all_goals go_ret
  all_goals refine ⟨ret_bool ?_, rfl⟩
  all_goals first | (simp [pwI, *]; done) | (simp [pwI]; omega)

set_option maxHeartbeats 400000 in
theorem name1_any (n : Int) (w : World) : Calls Tryz.prog 149 #[.int .u8 n] w fun e w' => e = .returned (.bool (lowI n)) ∧ w' = w := by
  go_enter Tryz.func149, Tryz.ntmps149
  go_wp2
  all_goals go_ret
  all_goals refine ⟨ret_bool ?_, rfl⟩
  all_goals first | (simp [lowI, *]; done) | (simp [lowI]; omega)

set_option maxHeartbeats 400000 in
theorem rkind_any (n : Int) (w : World) : Calls Tryz.prog 114 #[.int .i64 n] w fun e w' => e = .returned (.bool (n == 1 || n == 2)) ∧ w' = w := by
  go_enter Tryz.func114, Tryz.ntmps114
  go_wp2
  all_goals go_ret
  all_goals refine ⟨ret_bool ?_, rfl⟩
  all_goals simp_all

set_option maxHeartbeats 400000 in
theorem every_rw (s : ByteArray) (w : World) (hs : s.size ≤ maxLen) :
    Calls Tryz.prog 150 #[.string s, .func (.func 170) #[] #[]] w fun e w' => e = .returned (.bool (allI pwI s.data.toList)) ∧ w' = w := by
  unfold maxLen at hs
  go_enter Tryz.func150, Tryz.ntmps150
  go_wp2
  go_loop [8] (fun i => ∃ k : Nat, k ≤ s.size ∧ i = .int .i64 k ∧ allI pwI (s.data.toList.take k) = true) (fun i => s.size - (intOf i).toNat)
  case atStart => exact ⟨0, Nat.zero_le _, rfl, rfl⟩
  case round =>
    obtain ⟨k, hk, rfl, hal⟩ := hrel
    have HA : Hid (allI pwI (s.data.toList.take k) = true) := hal
    clear hal
    by_cases hlt : k < s.size
    · cases hp : pwI (s[k].toNat : Int)
      · go_wp2_with (go_at_call 170; refine (rw1_any _ _).mono ?_; rintro e w' ⟨rfl, rfl⟩)
        go_ret
        exact ⟨ret_bool (allI_false pwI s k hlt hp).symm, rfl⟩
      · go_wp2_with (go_at_call 170; refine (rw1_any _ _).mono ?_; rintro e w' ⟨rfl, rfl⟩)
        go_round
        case rel => exact ⟨k + 1, by omega, by go_num, by rw [take_snoc s k hlt, allI_snoc, HA.out, hp]; rfl⟩
        case measure => simp [intOf]; omega
    · go_wp2
      go_ret
      exact ⟨ret_bool (by have := HA.out; rw [List.take_of_length_le (by simp; omega)] at this; exact this.symm), rfl⟩

def rightWordB (l : List UInt8) : Bool := decide (l.length ≤ 16) && allI pwI l

set_option maxHeartbeats 400000 in
theorem rightWord_any (s : ByteArray) (w : World) (hs : s.size ≤ maxLen) :
    Calls Tryz.prog 152 #[.string s] w fun e w' => e = .returned (.bool (rightWordB s.data.toList)) ∧ w' = w := by
  have hs' := hs
  unfold maxLen at hs'
  have hl : s.data.toList.length = s.size := by simp
  have HL : Hid (s.data.toList.length = s.size) := hl
  clear hl
  by_cases h : s.size ≤ 16
  · go_enter Tryz.func152, Tryz.ntmps152
    go_wp2_with (go_at_call 150; refine (every_rw _ _ (by omega)).mono ?_; rintro e w' ⟨rfl, rfl⟩)
    go_ret
    exact ⟨ret_bool (by have := HL.out; simp only [rightWordB, this]; simp [h]), rfl⟩
  · go_enter Tryz.func152, Tryz.ntmps152
    go_wp2
    go_ret
    exact ⟨ret_bool (by have := HL.out; simp only [rightWordB, this]; simp [h]), rfl⟩

end Go.Proofs.YtjceppinfjbegaaGreatDoor

namespace Go.Proofs.YtjceppinfjbegaaGreatDoor
open Go.RowKit

theorem ret_str {a b : List UInt8} (h : a = b) : Ending.returned (.string ⟨a.toArray⟩) = .returned (.string ⟨b.toArray⟩) := by rw [h]

/-- Which values may be. -/
def rightValueB (k n : Int) (l : List UInt8) : Bool :=
  if k = 1 then decide (-1000000000 ≤ n) && (decide (n ≤ 1000000000) && l.isEmpty) else if k = 2 then rightWordB l && n == 0 else false

theorem below_box (w : World) (o : Obj) : Below w.heap.size w (w.alloc o) := (Below.refl _ _).alloc (Nat.le_refl _) o

theorem bool_false {b : Bool} (h : ¬ b = true) : b = false := by cases b <;> simp_all

set_option maxHeartbeats 400000 in
theorem rightValue_any (k n : Int) (s : ByteArray) (w : World) (hs : s.size ≤ maxLen) :
    Calls Tryz.prog 116 #[.agg #[.int .i64 k, .int .i64 n, .string s]] w fun e w' => e = .returned (.bool (rightValueB k n s.data.toList)) ∧ Below w.heap.size w w' := by
  go_enter Tryz.func116, Tryz.ntmps116
  go_wp2_with (go_at_call 152; refine (rightWord_any _ _ (by omega)).mono ?_; rintro e w' ⟨rfl, rfl⟩)
  all_goals go_ret
  all_goals refine ⟨ret_bool ?_, below_box _ _⟩
  all_goals simp_all [rightValueB, ByteArray.toList_eq]
  all_goals omega

def lessB (k n : Int) (l : List UInt8) (k' n' : Int) (l' : List UInt8) : Bool :=
  if k != k' then decide (k < k') else if k == 1 then decide (n < n') else Op.bytesLess l l'

set_option maxHeartbeats 400000 in
theorem less_any (k n : Int) (s : ByteArray) (k' n' : Int) (s' : ByteArray) (w : World) :
    Calls Tryz.prog 24 #[.agg #[.int .i64 k, .int .i64 n, .string s], .agg #[.int .i64 k', .int .i64 n', .string s']] w fun e w' => e = .returned (.bool (lessB k n s.data.toList k' n' s'.data.toList)) ∧ Below w.heap.size w w' := by
  go_enter Tryz.func24, Tryz.ntmps24
  go_wp2
  all_goals go_ret
  all_goals refine ⟨ret_bool ?_, ((Below.refl _ _).alloc (Nat.le_refl _) _).alloc (by simp) _⟩
  all_goals simp_all [lessB, ByteArray.toList_eq]
end Go.Proofs.YtjceppinfjbegaaGreatDoor

namespace Go.Proofs.YtjceppinfjbegaaGreatDoor
open Go.RowKit

set_option maxHeartbeats 400000 in
theorem name2_any (n : Int) (a : Addr) (w : World) (hc : w.cell? a = some (.func (.func 149) #[] #[])) :
    Calls Tryz.prog 151 #[.int .u8 n, .pointer (some a)] w fun e w' => e = .returned (.bool (lowdigI n)) ∧ w' = w := by
  cases h0 : lowI n
  all_goals
    go_enter Tryz.func151, Tryz.ntmps151
    go_wp2_with (go_at_call 149; refine (name1_any _ _).mono ?_; rintro e w' ⟨rfl, rfl⟩)
  all_goals go_ret
  all_goals refine ⟨ret_bool ?_, rfl⟩
  all_goals first | (simp [lowdigI, *]; done) | (simp [lowdigI, h0]; omega)

set_option maxHeartbeats 400000 in
theorem every_nm (s : ByteArray) (a : Addr) (w : World) (hs : s.size ≤ maxLen) (hc : w.cell? a = some (.func (.func 149) #[] #[])) :
    Calls Tryz.prog 150 #[.string s, .func (.func 151) #[] #[.pointer (some a)]] w fun e w' => e = .returned (.bool (allI lowdigI s.data.toList)) ∧ w' = w := by
  unfold maxLen at hs
  go_enter Tryz.func150, Tryz.ntmps150
  go_wp2
  go_loop [8] (fun i => ∃ k : Nat, k ≤ s.size ∧ i = .int .i64 k ∧ allI lowdigI (s.data.toList.take k) = true) (fun i => s.size - (intOf i).toNat)
  case atStart => exact ⟨0, Nat.zero_le _, rfl, rfl⟩
  case round =>
    obtain ⟨k, hk, rfl, hal⟩ := hrel
    have HA : Hid (allI lowdigI (s.data.toList.take k) = true) := hal
    clear hal
    by_cases hlt : k < s.size
    · cases hp : lowdigI (s[k].toNat : Int)
      · go_wp2_with (go_at_call 151; refine (name2_any _ _ _ hc).mono ?_; rintro e w' ⟨rfl, rfl⟩)
        go_ret
        exact ⟨ret_bool (allI_false lowdigI s k hlt hp).symm, rfl⟩
      · go_wp2_with (go_at_call 151; refine (name2_any _ _ _ hc).mono ?_; rintro e w' ⟨rfl, rfl⟩)
        go_round
        case rel => exact ⟨k + 1, by omega, by go_num, by rw [take_snoc s k hlt, allI_snoc, HA.out, hp]; rfl⟩
        case measure => simp [intOf]; omega
    · go_wp2
      go_ret
      exact ⟨ret_bool (by have := HA.out; rw [List.take_of_length_le (by simp; omega)] at this; exact this.symm), rfl⟩

def nameB (l : List UInt8) : Bool := match l with
  | [] => false
  | c :: _ => decide (l.length ≤ 10) && (lowI (c.toNat : Int) && allI lowdigI l)

theorem nameB_of (s : ByteArray) (h0 : 0 < s.size) : nameB s.data.toList = (decide (s.size ≤ 10) && (lowI (s[0].toNat : Int) && allI lowdigI s.data.toList)) := by
  obtain ⟨⟨l⟩⟩ := s
  match l, h0 with
  | c :: r, _ => rfl
  | [], h => exact absurd h (by simp [ByteArray.size])

set_option maxHeartbeats 800000 in
theorem name_any (s : ByteArray) (w : World) (hs : s.size ≤ maxLen) :
    Calls Tryz.prog 113 #[.string s] w fun e w' => e = .returned (.bool (nameB s.data.toList)) ∧ Below w.heap.size w w' := by
  have hmf : ∀ (fn : Fn) (first cap : Array Value) (w : World), (Instr.makeFunc fn first cap).run Tryz.prog w = .ok (.func fn first cap) w := fun _ _ _ _ => rfl
  by_cases h0 : 0 < s.size
  · have hN := nameB_of s h0
    have HN : Hid (nameB s.data.toList = (decide (s.size ≤ 10) && (lowI (s[0].toNat : Int) && allI lowdigI s.data.toList))) := hN
    clear hN
    have he : (s.toList.isEmpty) = false := by
      rw [ByteArray.toList_eq]
      cases h : s.data.toList with
      | nil => have : s.data.toList.length = 0 := by rw [h]; rfl
               have h2 : s.size = 0 := by simpa using this
               omega
      | cons a b => rfl
    by_cases h1 : s.size ≤ 10
    · cases h2 : lowI (s[0].toNat : Int)
      · go_enter Tryz.func113, Tryz.ntmps113
        go_wp2
        go_quiet ((go_at_call 149; exact Calls.quiet_of_same (name1_any _ _)))
        go_wp2
        go_ret
        exact ⟨ret_bool (by rw [HN.out]; simp [h1, h2]), below_drewN (below_box _ _) _⟩
      · go_enter Tryz.func113, Tryz.ntmps113
        go_wp2
        go_region_with (first | (go_at_call 149; refine (name1_any _ _).mono ?_; rintro e w' ⟨rfl, rfl⟩) | (go_at_call 150; refine (every_nm _ _ _ hs (by simp)).mono ?_; rintro e w' ⟨rfl, rfl⟩))
        all_goals go_wp2
        all_goals go_ret
        all_goals exact ⟨ret_bool (by rw [HN.out]; simp [h1, h2]), (below_box _ _).drew⟩
    · go_enter Tryz.func113, Tryz.ntmps113
      go_wp2
      go_ret
      exact ⟨ret_bool (by rw [HN.out]; simp [h1]), Below.refl _ _⟩
  · have he : s.toList.isEmpty = true := by
      rw [ByteArray.toList_eq]
      have : s.data.toList.length = 0 := by have : s.data.toList.length = s.size := by simp
                                            omega
      rw [List.length_eq_zero_iff.1 this]; rfl
    have hn : nameB s.data.toList = false := by
      have := he
      rw [ByteArray.toList_eq, List.isEmpty_iff] at this
      rw [this]; rfl
    have HN : Hid (nameB s.data.toList = false) := hn
    clear hn
    go_enter Tryz.func113, Tryz.ntmps113
    go_wp2
    go_ret
    exact ⟨ret_bool HN.out.symm, Below.refl _ _⟩
end Go.Proofs.YtjceppinfjbegaaGreatDoor

