import Derived.Test.YtedflhiflomoeaaGreatDoorProg
import Derived.WalkKit
import Derived.WalkSpells
import Derived.WalkLawsBesides
import Derived.Deep.QuietTactic
import Derived.BigQuiet
import Derived.Deep.RegionWith
import Derived.Deep.DeepFit
set_option linter.unusedSimpArgs false
set_option linter.unusedVariables false
namespace Go.Proofs.YtedflhiflomoeaaGreatDoor
open Go.RowKit

theorem ret_bool {a b : Bool} (h : a = b) : Ending.returned (.bool a) = .returned (.bool b) := by rw [h]
theorem ret_int {k : IntKind} {a b : Int} (h : a = b) : Ending.returned (.int k a) = .returned (.int k b) := by rw [h]

def pwI (n : Int) : Bool := decide (32 ≤ n) && (decide (n ≤ 126) && n != 39)
def lowI (n : Int) : Bool := decide (97 ≤ n) && decide (n ≤ 122)
def lowdigI (n : Int) : Bool := lowI n || (decide (48 ≤ n) && decide (n ≤ 57))
def allI (p : Int → Bool) (l : List UInt8) : Bool := l.all fun c => p (c.toNat : Int)

theorem take_snoc (s : ByteArray) (k : Nat) (h : k < s.size) : s.data.toList.take (k + 1) = s.data.toList.take k ++ [s[k]] := by
  rw [List.take_succ_eq_append_getElem (by simpa using h)]; rfl
theorem allI_snoc (p : Int → Bool) (l : List UInt8) (c : UInt8) : allI p (l ++ [c]) = (allI p l && p (c.toNat : Int)) := by
  simp [allI]
theorem allI_false (p : Int → Bool) (s : ByteArray) (k : Nat) (h : k < s.size) (hp : p (s[k].toNat : Int) = false) : allI p s.data.toList = false := by
  have : s[k] ∈ s.data.toList := by
    have := List.getElem_mem (l := s.data.toList) (n := k) (by simpa using h)
    exact this
  unfold allI
  rw [List.all_eq_false]
  exact ⟨_, this, by simp [hp]⟩

set_option maxHeartbeats 400000 in
theorem rw1_any (n : Int) (w : World) : Calls Tryz.prog 127 #[.int .u8 n] w fun e w' => e = .returned (.bool (pwI n)) ∧ w' = w := by
  go_enter Tryz.func127, Tryz.ntmps127
  go_wp2
  all_goals go_ret
  all_goals refine ⟨ret_bool ?_, rfl⟩
  all_goals first | (simp [pwI, *]; done) | (simp [pwI]; omega)

set_option maxHeartbeats 400000 in
theorem every_rw (s : ByteArray) (w : World) (hs : s.size ≤ maxLen) :
    Calls Tryz.prog 126 #[.string s, .func (.func 127) #[] #[]] w fun e w' => e = .returned (.bool (allI pwI s.data.toList)) ∧ w' = w := by
  unfold maxLen at hs
  go_enter Tryz.func126, Tryz.ntmps126
  go_wp2
  go_loop [8] (fun i => ∃ k : Nat, k ≤ s.size ∧ i = .int .i64 k ∧ allI pwI (s.data.toList.take k) = true) (fun i => s.size - (intOf i).toNat)
  case atStart => exact ⟨0, Nat.zero_le _, rfl, rfl⟩
  case round =>
    obtain ⟨k, hk, rfl, hal⟩ := hrel
    have HA : Hid (allI pwI (s.data.toList.take k) = true) := hal
    clear hal
    by_cases hlt : k < s.size
    · cases hp : pwI (s[k].toNat : Int)
      · go_wp2_with (go_at_call 127; refine (rw1_any _ _).mono ?_; rintro e w' ⟨rfl, rfl⟩)
        go_ret
        exact ⟨ret_bool (allI_false pwI s k hlt hp).symm, rfl⟩
      · go_wp2_with (go_at_call 127; refine (rw1_any _ _).mono ?_; rintro e w' ⟨rfl, rfl⟩)
        go_round
        case rel => exact ⟨k + 1, by omega, by go_num, by rw [take_snoc s k hlt, allI_snoc, HA.out, hp]; rfl⟩
        case measure => simp [intOf]; omega
    · go_wp2
      go_ret
      exact ⟨ret_bool (by have := HA.out; rw [List.take_of_length_le (by simp; omega)] at this; exact this.symm), rfl⟩

def rightWordB (l : List UInt8) : Bool := decide (l.length ≤ 16) && allI pwI l

set_option maxHeartbeats 400000 in
theorem rightWord_any (s : ByteArray) (w : World) (hs : s.size ≤ maxLen) :
    Calls Tryz.prog 120 #[.string s] w fun e w' => e = .returned (.bool (rightWordB s.data.toList)) ∧ w' = w := by
  have hs' := hs
  unfold maxLen at hs'
  have hl : s.data.toList.length = s.size := by simp
  have HL : Hid (s.data.toList.length = s.size) := hl
  clear hl
  by_cases h : s.size ≤ 16
  · go_enter Tryz.func120, Tryz.ntmps120
    go_wp2_with (go_at_call 126; refine (every_rw _ _ (by omega)).mono ?_; rintro e w' ⟨rfl, rfl⟩)
    go_ret
    exact ⟨ret_bool (by have := HL.out; simp only [rightWordB, this]; simp [h]), rfl⟩
  · go_enter Tryz.func120, Tryz.ntmps120
    go_wp2
    go_ret
    exact ⟨ret_bool (by have := HL.out; simp only [rightWordB, this]; simp [h]), rfl⟩

end Go.Proofs.YtedflhiflomoeaaGreatDoor
