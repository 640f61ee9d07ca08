import Derived.Test.YtfifbnopgpffkaaGreatDoorWalkB
import Derived.Laws.EntriesVeiled
set_option linter.unusedSimpArgs false
set_option linter.unusedVariables false
namespace Go.Proofs.YtfifbnopgpffkaaGreatDoor
open Go.RowKit

set_option maxHeartbeats 400000 in
theorem name2_any (n : Int) (a : Addr) (w : World) (hc : w.cell? a = some (.func (.func 48) #[] #[])) :
    Calls Tryz.prog 50 #[.int .u8 n, .pointer (some a)] w fun e w' => e = .returned (.bool (lowdigI n)) ∧ w' = w := by
  cases h0 : lowI n
  all_goals
    go_enter Tryz.func50, Tryz.ntmps50
    go_wp2_with (go_at_call 48; refine (name1_any _ _).mono ?_; rintro e w' ⟨rfl, rfl⟩)
  all_goals go_ret
  all_goals refine ⟨ret_bool ?_, rfl⟩
  all_goals first | (simp [lowdigI, *]; done) | (simp [lowdigI, h0]; omega)

set_option maxHeartbeats 400000 in
theorem every_nm (s : ByteArray) (a : Addr) (w : World) (hs : s.size ≤ maxLen) (hc : w.cell? a = some (.func (.func 48) #[] #[])) :
    Calls Tryz.prog 49 #[.string s, .func (.func 50) #[] #[.pointer (some a)]] w fun e w' => e = .returned (.bool (allI lowdigI s.data.toList)) ∧ w' = w := by
  unfold maxLen at hs
  go_enter Tryz.func49, Tryz.ntmps49
  go_wp2
  go_loop [8] (fun i => ∃ k : Nat, k ≤ s.size ∧ i = .int .i64 k ∧ allI lowdigI (s.data.toList.take k) = true) (fun i => s.size - (intOf i).toNat)
  case atStart => exact ⟨0, Nat.zero_le _, rfl, rfl⟩
  case round =>
    obtain ⟨k, hk, rfl, hal⟩ := hrel
    have HA : Hid (allI lowdigI (s.data.toList.take k) = true) := hal
    clear hal
    by_cases hlt : k < s.size
    · cases hp : lowdigI (s[k].toNat : Int)
      · go_wp2_with (go_at_call 50; refine (name2_any _ _ _ hc).mono ?_; rintro e w' ⟨rfl, rfl⟩)
        go_ret
        exact ⟨ret_bool (allI_false lowdigI s k hlt hp).symm, rfl⟩
      · go_wp2_with (go_at_call 50; refine (name2_any _ _ _ hc).mono ?_; rintro e w' ⟨rfl, rfl⟩)
        go_round
        case rel => exact ⟨k + 1, by omega, by go_num, by rw [take_snoc s k hlt, allI_snoc, HA.out, hp]; rfl⟩
        case measure => simp [intOf]; omega
    · go_wp2
      go_ret
      exact ⟨ret_bool (by have := HA.out; rw [List.take_of_length_le (by simp; omega)] at this; exact this.symm), rfl⟩

def nameB (l : List UInt8) : Bool := match l with
  | [] => false
  | c :: _ => decide (l.length ≤ 10) && (lowI (c.toNat : Int) && allI lowdigI l)

theorem nameB_of (s : ByteArray) (h0 : 0 < s.size) : nameB s.data.toList = (decide (s.size ≤ 10) && (lowI (s[0].toNat : Int) && allI lowdigI s.data.toList)) := by
  obtain ⟨⟨l⟩⟩ := s
  match l, h0 with
  | c :: r, _ => rfl
  | [], h => exact absurd h (by simp [ByteArray.size])

set_option maxHeartbeats 800000 in
theorem name_any (s : ByteArray) (w : World) (hs : s.size ≤ maxLen) :
    Calls Tryz.prog 32 #[.string s] w fun e w' => e = .returned (.bool (nameB s.data.toList)) ∧ Below w.heap.size w w' := by
  have hmf : ∀ (fn : Fn) (first cap : Array Value) (w : World), (Instr.makeFunc fn first cap).run Tryz.prog w = .ok (.func fn first cap) w := fun _ _ _ _ => rfl
  by_cases h0 : 0 < s.size
  · have hN := nameB_of s h0
    have HN : Hid (nameB s.data.toList = (decide (s.size ≤ 10) && (lowI (s[0].toNat : Int) && allI lowdigI s.data.toList))) := hN
    clear hN
    have he : (s.toList.isEmpty) = false := by
      rw [ByteArray.toList_eq]
      cases h : s.data.toList with
      | nil => have : s.data.toList.length = 0 := by rw [h]; rfl
               have h2 : s.size = 0 := by simpa using this
               omega
      | cons a b => rfl
    by_cases h1 : s.size ≤ 10
    · cases h2 : lowI (s[0].toNat : Int)
      · go_enter Tryz.func32, Tryz.ntmps32
        go_wp2
        go_quiet ((go_at_call 48; exact Calls.quiet_of_same (name1_any _ _)))
        go_wp2
        go_ret
        exact ⟨ret_bool (by rw [HN.out]; simp [h1, h2]), below_drewN (below_box _ _) _⟩
      · go_enter Tryz.func32, Tryz.ntmps32
        go_wp2
        go_region_with (first | (go_at_call 48; refine (name1_any _ _).mono ?_; rintro e w' ⟨rfl, rfl⟩) | (go_at_call 49; refine (every_nm _ _ _ hs (by simp)).mono ?_; rintro e w' ⟨rfl, rfl⟩))
        all_goals go_wp2
        all_goals go_ret
        all_goals exact ⟨ret_bool (by rw [HN.out]; simp [h1, h2]), (below_box _ _).drew⟩
    · go_enter Tryz.func32, Tryz.ntmps32
      go_wp2
      go_ret
      exact ⟨ret_bool (by rw [HN.out]; simp [h1]), Below.refl _ _⟩
  · have he : s.toList.isEmpty = true := by
      rw [ByteArray.toList_eq]
      have : s.data.toList.length = 0 := by have : s.data.toList.length = s.size := by simp
                                            omega
      rw [List.length_eq_zero_iff.1 this]; rfl
    have hn : nameB s.data.toList = false := by
      have := he
      rw [ByteArray.toList_eq, List.isEmpty_iff] at this
      rw [this]; rfl
    have HN : Hid (nameB s.data.toList = false) := hn
    clear hn
    go_enter Tryz.func32, Tryz.ntmps32
    go_wp2
    go_ret
    exact ⟨ret_bool HN.out.symm, Below.refl _ _⟩
end Go.Proofs.YtfifbnopgpffkaaGreatDoor
