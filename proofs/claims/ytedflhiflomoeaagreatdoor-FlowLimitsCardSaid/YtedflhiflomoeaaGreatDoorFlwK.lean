import Derived.Test.YtedflhiflomoeaaGreatDoorFlwD
import Derived.Deep.QuietTactic
import Derived.BigQuiet
set_option linter.unusedSimpArgs false
set_option linter.unusedVariables false
namespace Go.Proofs.YtedflhiflomoeaaGreatDoor
open Go.RowKit

theorem tok1_any (c : UInt8) (w : World) : Calls Tryz.prog 33 #[.int .u8 (c.toNat : Nat)] w fun e w' => e = .returned (.bool (blankB c)) ∧ w' = w := by
  have h1 : blankB c = ((c.toNat : Int) == 32 || (c.toNat : Int) == 10) := by
    unfold blankB
    have h : ∀ k : UInt8, (c == k) = ((c.toNat : Int) == (k.toNat : Int)) := by
      intro k
      rw [Bool.eq_iff_iff]
      simp [← UInt8.toNat_inj]
      omega
    rw [h, h]; rfl
  rw [h1]
  generalize (c.toNat : Int) = n
  cases h0 : (n == 32)
  all_goals
    go_enter Tryz.func33, Tryz.ntmps33
    go_wp2
  all_goals go_ret
  all_goals refine ⟨ret_bool ?_, rfl⟩
  all_goals simp_all
theorem fst1_any (c : UInt8) (w : World) : Calls Tryz.prog 50 #[.int .u8 (c.toNat : Nat)] w fun e w' => e = .returned (.bool (lowB c)) ∧ w' = w := by
  have h1 : lowB c = (decide ((97 : Int) ≤ (c.toNat : Int)) && decide ((c.toNat : Int) ≤ 122)) := by
    unfold lowB
    rw [Bool.eq_iff_iff]
    simp
    omega
  rw [h1]
  generalize (c.toNat : Int) = n
  by_cases h0 : (97 : Int) ≤ n
  all_goals
    go_enter Tryz.func50, Tryz.ntmps50
    go_wp2
  all_goals go_ret
  all_goals refine ⟨ret_bool ?_, rfl⟩
  all_goals first | (simp_all; done) | (simp_all; intro h; omega)
theorem fst2_any (c : UInt8) (w : World) : Calls Tryz.prog 51 #[.int .u8 (c.toNat : Nat)] w fun e w' => e = .returned (.bool (digB c)) ∧ w' = w := by
  have h1 : digB c = (decide ((48 : Int) ≤ (c.toNat : Int)) && decide ((c.toNat : Int) ≤ 57)) := by
    unfold digB
    rw [Bool.eq_iff_iff]
    simp
    omega
  rw [h1]
  generalize (c.toNat : Int) = n
  by_cases h0 : (48 : Int) ≤ n
  all_goals
    go_enter Tryz.func51, Tryz.ntmps51
    go_wp2
  all_goals go_ret
  all_goals refine ⟨ret_bool ?_, rfl⟩
  all_goals first | (simp_all; done) | (simp_all; intro h; omega)
theorem fst3_any (c : UInt8) (a b : Addr) (w : World) (ha : w.cell? a = some (.func (.func 50) #[] #[])) (hb : w.cell? b = some (.func (.func 51) #[] #[])) : Calls Tryz.prog 52 #[.int .u8 (c.toNat : Nat), .pointer (some a), .pointer (some b)] w fun e w' => e = .returned (.bool (lowdigB c)) ∧ w' = w := by
  have H1 := Hid.mk (fst1_any c w)
  have H2 := Hid.mk (fst2_any c w)
  have HL := Hid.mk (show lowdigB c = (lowB c || digB c) from rfl)
  cases h0 : lowB c
  all_goals
    rw [h0] at H1 HL
    go_enter Tryz.func52, Tryz.ntmps52
    go_wp2_with (first | (go_at_call 50; refine H1.out.mono ?_; rintro e w' ⟨rfl, rfl⟩) | (go_at_call 51; refine H2.out.mono ?_; rintro e w' ⟨rfl, rfl⟩))
  all_goals go_ret
  all_goals exact ⟨ret_bool (by rw [HL.out]; rfl), rfl⟩
theorem run_at (p : UInt8 → Bool) : ∀ (l : By) (k : Nat) (h : k < l.length), (∀ (j : Nat) (hj : j < l.length), j < k → p l[j] = true) → p l[k] = false → runL p l = k
  | [], k, h, _, _ => by simp at h
  | c :: r, 0, h, _, hk => by
    simp at hk
    simp [runL, hk]
  | c :: r, k + 1, h, ha, hk => by
    have h0 : p c = true := ha 0 (by simp) (by omega)
    have ih := run_at p r k (by simpa using h) (fun j hj hjk => ha (j + 1) (by simp; omega) (by omega)) (by simpa using hk)
    unfold runL at ih ⊢
    rw [List.takeWhile_cons_of_pos h0, List.length_cons, ih]
theorem run_all (p : UInt8 → Bool) : ∀ (l : By), (∀ (j : Nat) (hj : j < l.length), p l[j] = true) → runL p l = l.length
  | [], _ => rfl
  | c :: r, h => by
    have h0 : p c = true := h 0 (by simp)
    have ih := run_all p r (fun j hj => h (j + 1) (by simp; omega))
    unfold runL at ih ⊢
    rw [List.takeWhile_cons_of_pos h0, List.length_cons, List.length_cons, ih]
set_option maxRecDepth 100000 in
set_option maxHeartbeats 800000 in
theorem run_blank (l : By) (w : World) (hl : l.length ≤ 1000000) : Calls Tryz.prog 34 #[.string (ba l), .func (.func 33) #[] #[]] w fun e w' => e = .returned (.int .i64 (runL blankB l : Nat)) ∧ w' = w := by
  have hsz : (ba l).size = l.length := ba_size l
  go_enter Tryz.func34, Tryz.ntmps34
  go_wp2
  go_loopg [8] l.length (fun g i wr => ∃ k : Nat, k ≤ l.length ∧ i = .int .i64 k ∧ l.length - k ≤ g ∧ Aside (∀ (j : Nat) (hj : j < l.length), j < k → blankB l[j] = true) ∧ wr = w)
  case atStart => exact ⟨0, Nat.zero_le _, rfl, by omega, fun j _ h => absurd h (by omega), rfl⟩
  case round =>
    obtain ⟨k, hk, rfl, hg, HA, hwr⟩ := hrel
    have hwr' := hwr.symm
    clear hwr
    subst hwr'
    by_cases hlt : k < l.length
    · have hltz : (k : Int) < (l.length : Int) := by omega
      cases hp : blankB l[k]
      · have HR := Hid.mk (run_at blankB l k hlt HA.out hp)
        have HC := Hid.mk hp
        clear hp
        go_wp2_with (go_at_call 33; fail)
        refine (tok1_any _ _).mono ?_
        rintro e w2 ⟨rfl, rfl⟩
        rw [show blankB (ba l)[k] = false from HC.out]
        go_wp2
        go_ret
        exact ⟨ret_int (by rw [HR.out]), rfl⟩
      · have HC := Hid.mk hp
        have HA2 := Hid.mk (show ∀ (j : Nat) (hj : j < l.length), j < k + 1 → blankB l[j] = true from fun j h1 h2 => by
          by_cases h3 : j < k
          · exact HA.out j h1 h3
          · have : j = k := by omega
            subst this
            exact hp)
        clear hp
        go_wp2_with (go_at_call 33; fail)
        refine (tok1_any _ _).mono ?_
        rintro e w2 ⟨rfl, rfl⟩
        rw [show blankB (ba l)[k] = true from HC.out]
        go_wp2
        go_roundg (l.length - (k + 1))
        case measure => omega
        case rel => exact ⟨k + 1, by omega, by go_num, Nat.le_refl _, HA2.out, rfl⟩
    · have hltz : ¬ ((k : Int) < (l.length : Int)) := by omega
      have HR := Hid.mk (run_all blankB l (fun j hj => HA.out j hj (by omega)))
      go_wp2
      go_ret
      exact ⟨ret_int (by rw [HR.out]), rfl⟩
set_option maxRecDepth 100000 in
set_option maxHeartbeats 800000 in
theorem run_dig (l : By) (w : World) (hl : l.length ≤ 1000000) : Calls Tryz.prog 34 #[.string (ba l), .func (.func 51) #[] #[]] w fun e w' => e = .returned (.int .i64 (runL digB l : Nat)) ∧ w' = w := by
  have hsz : (ba l).size = l.length := ba_size l
  go_enter Tryz.func34, Tryz.ntmps34
  go_wp2
  go_loopg [8] l.length (fun g i wr => ∃ k : Nat, k ≤ l.length ∧ i = .int .i64 k ∧ l.length - k ≤ g ∧ Aside (∀ (j : Nat) (hj : j < l.length), j < k → digB l[j] = true) ∧ wr = w)
  case atStart => exact ⟨0, Nat.zero_le _, rfl, by omega, fun j _ h => absurd h (by omega), rfl⟩
  case round =>
    obtain ⟨k, hk, rfl, hg, HA, hwr⟩ := hrel
    have hwr' := hwr.symm
    clear hwr
    subst hwr'
    by_cases hlt : k < l.length
    · have hltz : (k : Int) < (l.length : Int) := by omega
      cases hp : digB l[k]
      · have HR := Hid.mk (run_at digB l k hlt HA.out hp)
        have HC := Hid.mk hp
        clear hp
        go_wp2_with (go_at_call 51; fail)
        refine (fst2_any _ _).mono ?_
        rintro e w2 ⟨rfl, rfl⟩
        rw [show digB (ba l)[k] = false from HC.out]
        go_wp2
        go_ret
        exact ⟨ret_int (by rw [HR.out]), rfl⟩
      · have HC := Hid.mk hp
        have HA2 := Hid.mk (show ∀ (j : Nat) (hj : j < l.length), j < k + 1 → digB l[j] = true from fun j h1 h2 => by
          by_cases h3 : j < k
          · exact HA.out j h1 h3
          · have : j = k := by omega
            subst this
            exact hp)
        clear hp
        go_wp2_with (go_at_call 51; fail)
        refine (fst2_any _ _).mono ?_
        rintro e w2 ⟨rfl, rfl⟩
        rw [show digB (ba l)[k] = true from HC.out]
        go_wp2
        go_roundg (l.length - (k + 1))
        case measure => omega
        case rel => exact ⟨k + 1, by omega, by go_num, Nat.le_refl _, HA2.out, rfl⟩
    · have hltz : ¬ ((k : Int) < (l.length : Int)) := by omega
      have HR := Hid.mk (run_all digB l (fun j hj => HA.out j hj (by omega)))
      go_wp2
      go_ret
      exact ⟨ret_int (by rw [HR.out]), rfl⟩
set_option maxRecDepth 100000 in
set_option maxHeartbeats 800000 in
theorem run_low (l : By) (w : World) (hl : l.length ≤ 1000000) (a b : Addr) (ha : w.cell? a = some (.func (.func 50) #[] #[])) (hb : w.cell? b = some (.func (.func 51) #[] #[])) : Calls Tryz.prog 34 #[.string (ba l), .func (.func 52) #[] #[.pointer (some a), .pointer (some b)]] w fun e w' => e = .returned (.int .i64 (runL lowdigB l : Nat)) ∧ w' = w := by
  have hsz : (ba l).size = l.length := ba_size l
  go_enter Tryz.func34, Tryz.ntmps34
  go_wp2
  go_loopg [8] l.length (fun g i wr => ∃ k : Nat, k ≤ l.length ∧ i = .int .i64 k ∧ l.length - k ≤ g ∧ Aside (∀ (j : Nat) (hj : j < l.length), j < k → lowdigB l[j] = true) ∧ wr = w)
  case atStart => exact ⟨0, Nat.zero_le _, rfl, by omega, fun j _ h => absurd h (by omega), rfl⟩
  case round =>
    obtain ⟨k, hk, rfl, hg, HA, hwr⟩ := hrel
    have hwr' := hwr.symm
    clear hwr
    subst hwr'
    by_cases hlt : k < l.length
    · have hltz : (k : Int) < (l.length : Int) := by omega
      cases hp : lowdigB l[k]
      · have HR := Hid.mk (run_at lowdigB l k hlt HA.out hp)
        have HC := Hid.mk hp
        clear hp
        go_wp2_with (go_at_call 52; fail)
        refine (fst3_any _ _ _ _ ha hb).mono ?_
        rintro e w2 ⟨rfl, rfl⟩
        rw [show lowdigB (ba l)[k] = false from HC.out]
        go_wp2
        go_ret
        exact ⟨ret_int (by rw [HR.out]), rfl⟩
      · have HC := Hid.mk hp
        have HA2 := Hid.mk (show ∀ (j : Nat) (hj : j < l.length), j < k + 1 → lowdigB l[j] = true from fun j h1 h2 => by
          by_cases h3 : j < k
          · exact HA.out j h1 h3
          · have : j = k := by omega
            subst this
            exact hp)
        clear hp
        go_wp2_with (go_at_call 52; fail)
        refine (fst3_any _ _ _ _ ha hb).mono ?_
        rintro e w2 ⟨rfl, rfl⟩
        rw [show lowdigB (ba l)[k] = true from HC.out]
        go_wp2
        go_roundg (l.length - (k + 1))
        case measure => omega
        case rel => exact ⟨k + 1, by omega, by go_num, Nat.le_refl _, HA2.out, rfl⟩
    · have hltz : ¬ ((k : Int) < (l.length : Int)) := by omega
      have HR := Hid.mk (run_all lowdigB l (fun j hj => HA.out j hj (by omega)))
      go_wp2
      go_ret
      exact ⟨ret_int (by rw [HR.out]), rfl⟩
end Go.Proofs.YtedflhiflomoeaaGreatDoor
