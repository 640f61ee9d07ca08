import Derived.Test.YtedflhiflomoeaaGreatDoorRefD
import Derived.Test.YtedflhiflomoeaaGreatDoorShelfR
set_option linter.unusedSimpArgs false
set_option linter.unusedVariables false
namespace Go.Proofs.YtedflhiflomoeaaGreatDoor
open Go.RowKit

theorem in_any (n lo hi : Int) (w : World) : Calls Tryz.prog 102 #[.int .i64 n, .int .i64 lo, .int .i64 hi] w fun e w' => e = .returned (.bool (decide (lo ≤ n) && decide (n ≤ hi))) ∧ w' = w := by
  by_cases h : lo ≤ n
  · have hd : decide (lo ≤ n) = true := decide_eq_true h
    rw [hd, Bool.true_and]
    go_enter Tryz.func102, Tryz.ntmps102
    go_wp2
    go_ret
    exact ⟨rfl, rfl⟩
  · have hd : decide (lo ≤ n) = false := decide_eq_false h
    rw [hd, Bool.false_and]
    have h' : n < lo := by omega
    go_enter Tryz.func102, Tryz.ntmps102
    go_wp2
    go_ret
    exact ⟨rfl, rfl⟩
set_option maxRecDepth 100000 in
set_option maxHeartbeats 1600000 in
theorem rrv_any (k n : Int) (s : ByteArray) (w : World) (hs : s.size ≤ maxLen) :
    Calls Tryz.prog 76 #[.agg #[.int .i64 k, .int .i64 n, .string s]] w fun e w' => e = .returned (.bool (rightValueB k n s.data.toList)) ∧ Below w.heap.size w w' := by
  unfold maxLen at hs
  by_cases hk : k = 1
  · subst hk
    by_cases hin : -1000000000 ≤ n ∧ n ≤ 1000000000
    · have hd : (decide (-1000000000 ≤ n) && decide (n ≤ 1000000000)) = true := by simp [hin.1, hin.2]
      go_enter Tryz.func76, Tryz.ntmps76
      go_wp2_with (go_at_call 102; refine (in_any _ _ _ _).mono ?_; rintro e w' ⟨rfl, rfl⟩; rw [hd])
      go_ret
      refine ⟨ret_bool ?_, below_box _ _⟩
      simp [rightValueB, hin.1, hin.2, ByteArray.toList_eq]
    · have hd : (decide (-1000000000 ≤ n) && decide (n ≤ 1000000000)) = false := by
        rw [Bool.and_eq_false_iff]
        simp only [decide_eq_false_iff_not]
        omega
      go_enter Tryz.func76, Tryz.ntmps76
      go_wp2_with (go_at_call 102; refine (in_any _ _ _ _).mono ?_; rintro e w' ⟨rfl, rfl⟩; rw [hd])
      go_ret
      refine ⟨ret_bool ?_, below_box _ _⟩
      unfold rightValueB
      rw [if_pos rfl, ← Bool.and_assoc, hd]
      rfl
  have hkb : (k == 1) = false := by simp [hk]
  have HF : Hid (∀ j, (hj : j < s.size) → pwI (s[j].toNat : Int) = false → rightValueB k n s.data.toList = false) := Hid.mk fun j hj hp => by
    unfold rightValueB
    rw [if_neg hk]
    split
    · unfold rightWordB
      rw [allI_false pwI s j hj hp, Bool.and_false, Bool.false_and]
    · rfl
  go_enter Tryz.func76, Tryz.ntmps76
  go_wp2
  go_loop [19] (fun i => ∃ j : Nat, j ≤ s.size ∧ i = .int .i64 j ∧ allI pwI (s.data.toList.take j) = true) (fun i => s.size - (intOf i).toNat)
  case atStart => exact ⟨0, Nat.zero_le _, rfl, rfl⟩
  case round =>
    obtain ⟨j, hj, rfl, hal⟩ := hrel
    have HA : Hid (allI pwI (s.data.toList.take j) = true) := Hid.mk hal
    clear hal
    by_cases hlt : j < s.size
    · have hcv : pwI (s[j].toNat : Int) = (decide (32 ≤ (s[j].toNat : Int)) && (decide ((s[j].toNat : Int) ≤ 126) && (s[j].toNat : Int) != 39)) := rfl
      cases hp : pwI (s[j].toNat : Int)
      · have HR := Hid.mk (HF.out j hlt hp)
        rw [hp] at hcv
        clear hp
        by_cases a1 : (s[j].toNat : Int) < 32
        · clear hcv
          go_wp2
          go_ret
          exact ⟨ret_bool HR.out.symm, below_box _ _⟩
        · by_cases a2 : 126 < (s[j].toNat : Int)
          · clear hcv
            go_wp2
            go_ret
            exact ⟨ret_bool HR.out.symm, below_box _ _⟩
          · have a3 : (s[j].toNat : Int) = 39 := by
              have e1 : decide (32 ≤ (s[j].toNat : Int)) = true := decide_eq_true (by omega)
              have e2 : decide ((s[j].toNat : Int) ≤ 126) = true := decide_eq_true (by omega)
              rw [e1, e2, Bool.true_and, Bool.true_and] at hcv
              by_cases e3 : (s[j].toNat : Int) = 39
              · exact e3
              · have : ((s[j].toNat : Int) != 39) = true := by simpa using e3
                rw [this] at hcv
                cases hcv
            clear hcv a1 a2
            go_wp2
            go_ret
            exact ⟨ret_bool HR.out.symm, below_box _ _⟩
      · have HP := Hid.mk hp
        rw [hp] at hcv
        replace hcv := hcv.symm
        simp only [Bool.and_eq_true, decide_eq_true_eq, bne_iff_ne] at hcv
        obtain ⟨a1, a2, a3⟩ := hcv
        have a1' : ¬ (s[j].toNat : Int) < 32 := by omega
        have a2' : ¬ 126 < (s[j].toNat : Int) := by omega
        have a3' : ((s[j].toNat : Int) == 39) = false := by simpa using a3
        clear hp a1 a2 a3
        obtain ⟨c, hc⟩ : ∃ c : Int, (s[j].toNat : Int) = c := ⟨_, rfl⟩
        rw [hc] at a1' a2' a3'
        go_wp2
        go_round
        case rel => exact ⟨j + 1, by omega, by go_num, by rw [take_snoc s j hlt, allI_snoc, HA.out, HP.out]; rfl⟩
        case measure => simp [intOf]; omega
    · have hall : allI pwI s.data.toList = true := by have := HA.out; rw [List.take_of_length_le (by simp; omega)] at this; exact this
      have HALL := Hid.mk hall
      have hsl : s.data.toList.length = s.size := by simp
      have HSL := Hid.mk hsl
      clear hall hsl
      by_cases h2 : k = 2
      · subst h2
        by_cases h0 : n = 0
        · subst h0
          go_wp2
          go_ret
          refine ⟨ret_bool ?_, below_box _ _⟩
          unfold rightValueB rightWordB
          rw [HALL.out, HSL.out]
          simp
          omega
        · have h0b : (n == 0) = false := by simpa using h0
          go_wp2
          go_ret
          refine ⟨ret_bool ?_, below_box _ _⟩
          unfold rightValueB
          rw [if_neg (by decide), if_pos rfl, h0b, Bool.and_false]
      · have h2b : (k == 2) = false := by simpa using h2
        go_wp2
        go_ret
        refine ⟨ret_bool ?_, below_box _ _⟩
        unfold rightValueB
        rw [if_neg hk, if_neg h2]
end Go.Proofs.YtedflhiflomoeaaGreatDoor
