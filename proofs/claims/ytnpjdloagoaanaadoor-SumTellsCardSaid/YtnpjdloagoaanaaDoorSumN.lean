import Derived.Test.YtnpjdloagoaanaaDoorSumM
set_option linter.unusedSimpArgs false
set_option linter.unusedVariables false
namespace Go.Proofs.YtnpjdloagoaanaaDoor
open Go.RowKit

theorem root_top (k p : Nat) (hk : k = 2 ∨ k = 3) (hp : p < 65536) : p * 2 ^ (32 * k) < 1099511627776 ^ k := by
  rcases hk with rfl | rfl
  · have e1 : (2 : Nat) ^ (32 * 2) = 18446744073709551616 := by decide
    have e2 : (1099511627776 : Nat) ^ 2 = 1208925819614629174706176 := by decide
    rw [e1, e2]; omega
  · have e1 : (2 : Nat) ^ (32 * 3) = 79228162514264337593543950336 := by decide
    have e2 : (1099511627776 : Nat) ^ 3 = 1329227995784915872903807060280344576 := by decide
    rw [e1, e2]; omega

set_option maxRecDepth 100000 in
set_option maxHeartbeats 800000 in
theorem root_any (p k r : Nat) (w : World) (hk : k = 2 ∨ k = 3) (hp : p < 65536) (h1 : r ^ k ≤ p * 2 ^ (32 * k)) (h2 : p * 2 ^ (32 * k) < (r + 1) ^ k) :
    Calls Tryd.prog 23 #[.int .u64 (p : Int), .int .i64 (k : Int)] w fun e w' => e = .returned (.int .u32 ((r % 4294967296 : Nat) : Int)) ∧ Below w.heap.size w w' := by
  have HT := Hid.mk (root_top k p hk hp)
  have HR := Hid.mk (And.intro h1 h2)
  have hk3 : k ≤ 3 := by omega
  have hA : ∀ (x : Nat) (w : World), x ≤ 1099511627776 → Calls Tryd.prog 39 #[.int .u64 (x : Int), .int .i64 (k : Int), .int .u64 (p : Int)] w fun e w' => e = .returned (.bool (decide (p * 2 ^ (32 * k) < x ^ k))) ∧ Below w.heap.size w w' := fun x w hx => above_any x k p w hk3 hx hp
  have HA := Hid.mk hA
  have HK := Hid.mk hk
  clear h1 h2 hA hk
  go_enter Tryd.func23, Tryd.ntmps23
  go_wp2
  go_loopw [5, 6] (fun lo hi wr => ∃ a b : Nat, a < b ∧ b ≤ 1099511627776 ∧ lo = .int .u64 (a : Int) ∧ hi = .int .u64 (b : Int) ∧ a ^ k ≤ p * 2 ^ (32 * k) ∧ p * 2 ^ (32 * k) < b ^ k ∧ Below w.heap.size w wr) (fun lo hi _ => (intOf hi - intOf lo).toNat)
  case atStart => exact ⟨0, 1099511627776, by omega, by omega, rfl, rfl, by rw [Nat.zero_pow (by have := HK.out; omega)]; omega, HT.out, Below.refl _ _⟩
  case round =>
    obtain ⟨a, b, hab, hb, rfl, rfl, hlo, hhi, hnx⟩ := hrel
    have HL := Hid.mk (And.intro hlo hhi)
    have HNX := Hid.mk hnx
    have f1 : IntKind.u64.wrap ((a : Int) + 1) = (a : Int) + 1 := by rw [IntKind.wrap_u64]; omega
    clear hlo hhi hnx
    by_cases hlt : a + 1 < b
    · obtain ⟨m, hm⟩ : ∃ m, (a + b) / 2 = m := ⟨_, rfl⟩
      have f2 : IntKind.u64.wrap ((a : Int) + (b : Int)) = (a : Int) + (b : Int) := by rw [IntKind.wrap_u64]; omega
      have f3 : ((a : Int) + (b : Int)).tdiv 2 = (m : Int) := by rw [Int.tdiv_eq_ediv_of_nonneg (by omega)]; omega
      have f4 : IntKind.u64.wrap (m : Int) = (m : Int) := by rw [IntKind.wrap_u64]; omega
      have f5 : (a : Int) + 1 < (b : Int) := by omega
      have HM := Hid.mk (show a < m ∧ m < b by omega)
      have hmb : m ≤ 1099511627776 := by omega
      have HAM := Hid.mk (HA.out m wr hmb)
      clear hm hmb
      cases hd : decide (p * 2 ^ (32 * k) < m ^ k)
      · have HD := Hid.mk (of_decide_eq_false hd)
        have HAM' : Hid (Calls Tryd.prog 39 #[.int .u64 (m : Int), .int .i64 (k : Int), .int .u64 (p : Int)] wr fun e w' => e = .returned (.bool false) ∧ Below wr.heap.size wr w') := by have := HAM.out; rw [hd] at this; exact this
        clear hd HAM
        go_wp2_with (go_at_call 39; refine HAM'.out.mono ?_; rintro e w5 ⟨rfl, hb5⟩)
        go_roundw
        case rel => exact ⟨m, b, HM.out.2, by omega, rfl, rfl, by have := HD.out; omega, HL.out.2, bel_then HNX.out hb5⟩
        case measure => have := HM.out; simp [intOf]; omega
      · have HD := Hid.mk (of_decide_eq_true hd)
        have HAM' : Hid (Calls Tryd.prog 39 #[.int .u64 (m : Int), .int .i64 (k : Int), .int .u64 (p : Int)] wr fun e w' => e = .returned (.bool true) ∧ Below wr.heap.size wr w') := by have := HAM.out; rw [hd] at this; exact this
        clear hd HAM
        go_wp2_with (go_at_call 39; refine HAM'.out.mono ?_; rintro e w5 ⟨rfl, hb5⟩)
        go_roundw
        case rel => exact ⟨a, m, HM.out.1, by have := HM.out; omega, rfl, rfl, HL.out.1, HD.out, bel_then HNX.out hb5⟩
        case measure => have := HM.out; simp [intOf]; omega
    · have hba : b = a + 1 := by omega
      subst hba
      have har : a = r := root_one HL.out.1 HL.out.2 HR.out.1 HR.out.2
      have f5 : ¬ ((a : Int) + 1 < ((a + 1 : Nat) : Int)) := by omega
      go_wp2
      go_ret
      refine ⟨ret_u32 ?_, HNX.out⟩
      rw [← har]
end Go.Proofs.YtnpjdloagoaanaaDoor
