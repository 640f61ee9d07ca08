/-
  How much, and how many, at most, is the document's: foremanlaw.FlowLimits returns true at every two numbers and every text, whatever memory and schedule, and its arguments read as they did. Its conditions: the listed package-level variables hold what the program's text lays; all others hold whatever their types allow.
-/
import Derived.Test.YtedflhiflomoeaaGreatDoorLawB
import Derived.Test.YtedflhiflomoeaaGreatDoorRefP
import Derived.Test.YtedflhiflomoeaaGreatDoorLawC
import Derived.Deep.Cut
import Derived.Deep.DeepCutAuto
import Derived.Deep.RegionHeld3
import Derived.Test.YtedflhiflomoeaaGreatDoorRows
import Derived.Test.YtedflhiflomoeaaGreatDoorRefA
import Derived.Shelf.Vars
import Derived.Deep.Strs
import Derived.Lib.SmallJoins
import Derived.Deep.SlicePairs
import Derived.ProofKit
import Derived.OpenShut
import Derived.Stop.LaidErr
import Derived.Lib.LaidTab
import Derived.Lib.LaidU8
import Derived.Lay
import Derived.LaidLaws
import Derived.LaidHandle
import Derived.Stop.Joined
import Derived.Deep.DeepHandedRow
import Derived.Test.YtedflhiflomoeaaGreatDoorCards
import Derived.Test.YtedflhiflomoeaaGreatDoorTie
set_option linter.unusedSimpArgs false
set_option linter.unusedVariables false
namespace Go.Proofs.YtedflhiflomoeaaGreatDoor
open Go.RowKit

theorem cat_size {a b x : ByteArray} {n m : Nat} (h : a ++ b = x) (ha : a.size ≤ n) (hb : b.size ≤ m) : x.size ≤ n + m := by
  rw [← h, ByteArray.size_append]; omega
theorem u_mod (n : Int) (q : Nat) (hq : 0 < q) (hq2 : q ≤ 100) : ∃ K : Nat, K < q ∧ wrap64 ((IntKind.u64.wrap n).tmod q) = (K : Int) := by
  have h0 : IntKind.u64.wrap n = n % 18446744073709551616 := by simp [IntKind.wrap, IntKind.signed, IntKind.bits]
  have h : 0 ≤ IntKind.u64.wrap n := by rw [h0]; omega
  obtain ⟨N, hN⟩ := Int.eq_ofNat_of_zero_le h
  refine ⟨N % q, Nat.mod_lt _ hq, ?_⟩
  rw [hN, Int.tmod_eq_emod_of_nonneg (by omega)]
  have h1 : N % q < q := Nat.mod_lt _ hq
  have h2 : ((N : Int) % (q : Int)) = ((N % q : Nat) : Int) := by simp
  rw [h2]
  unfold wrap64
  omega
theorem wrap_is (x : Int) : IntKind.i64.wrap x = wrap64 x := by rw [IntKind.wrap_i64]; unfold wrap64; rfl
theorem not_rep {b : UInt8} {s : By} {n : Nat} (h : b ∉ s) : b ∉ repL s n := by
  unfold repL
  intro hm
  rw [List.mem_flatten] at hm
  obtain ⟨x, hx, hb⟩ := hm
  rw [List.mem_replicate] at hx
  rw [hx.2] at hb
  exact h hb
theorem not_app {b : UInt8} {s t : By} (h : b ∉ s) (g : b ∉ t) : b ∉ s ++ t := by
  rw [List.mem_append]; rintro (x | x)
  · exact h x
  · exact g x
theorem short_of (x : ByteArray) {n : Nat} (h : x.size ≤ n) (hn : n ≤ 95) : x.data.toList.length ≤ 95 := by
  have : x.data.toList.length = x.size := rfl
  omega
theorem text_ok (x : ByteArray) {n : Nat} (h : n ≤ 100000) (ha : parseF x.data.toList = refF x.data.toList) (hs : x.size ≤ n := by assumption) : x.data.toList.length ≤ 100000 ∧ parseF x.data.toList = refF x.data.toList := by
  have : x.data.toList.length = x.size := rfl
  exact ⟨by omega, ha⟩
theorem rd_nil (w : World) : FlowRd w ⟨[], [], []⟩ (.slice none 0 0) (.slice none 0 0) (.slice none 0 0) := ⟨Or.inl ⟨rfl, rfl⟩, Or.inl ⟨rfl, rfl⟩, Or.inl ⟨rfl, rfl⟩⟩
theorem ok_nil : FlwOK ⟨[], [], []⟩ := ⟨fun _ h => (by cases h), fun _ h => (by cases h), fun _ h => (by cases h), Nat.zero_le _, Nat.zero_le _, Nat.zero_le _⟩
theorem k_mod (K q : Nat) : (K : Int).tmod (q : Int) = ((K % q : Nat) : Int) := by
  rw [Int.tmod_eq_emod_of_nonneg (by omega)]; simp
set_option maxRecDepth 100000 in
set_option maxHeartbeats 6400000 in
theorem limits_small (n m : Int) (NB : ByteArray) (w : World) (sNB : NB.size ≤ 20) (hE : REnv w) (hT : ErrT w) : Calls Tryz.prog 3 #[.int .i64 n, .int .i64 m, .string NB] w fun e w' => e = .returned (.bool true) ∧ Below w.heap.size w w' := by
  have hn0 : ¬ (20 : Int) < (NB.size : Int) := by omega
  have HE := Hid.mk hE
  have HT := Hid.mk hT
  clear hE hT
  obtain ⟨K, hK, hKe⟩ := u_mod n 20 (by omega) (by omega)
  obtain ⟨M, hM, hMe⟩ := u_mod m 8 (by omega) (by omega)
  change wrap64 ((IntKind.u64.wrap n).tmod 20) = (K : Int) at hKe
  change wrap64 ((IntKind.u64.wrap m).tmod 8) = (M : Int) at hMe
  have m4 : (K : Int).tmod 4 = ((K % 4 : Nat) : Int) := k_mod K 4
  have m7 : (K : Int).tmod 7 = ((K % 7 : Nat) : Int) := k_mod K 7
  have m9 : (K : Int).tmod 9 = ((K % 9 : Nat) : Int) := k_mod K 9
  have hMw : IntKind.i64.wrap ((IntKind.u64.wrap m).tmod 8) = (M : Int) := by rw [← hMe]; exact wrap_is _
  have w192 : IntKind.i64.wrap (192 + (M : Int)) = 192 + (M : Int) := by rw [wrap_is]; unfold wrap64; omega
  have w8 : IntKind.i64.wrap (8 + (K : Int)) = 8 + (K : Int) := by rw [wrap_is]; unfold wrap64; omega
  have hKI : (K : Int) < 20 := by omega
  have hMI : (M : Int) < 8 := by omega
  obtain ⟨R0, hR0⟩ : ∃ x, ba (repL [105, 110, 32, 97, 58, 32, 98, 32, 105, 110, 116, 59, 32] (K)) = x := ⟨_, rfl⟩
  have CR0 : Hid (∀ V, Calls Tryz.prog 4 #[.string ⟨#[105, 110, 32, 97, 58, 32, 98, 32, 105, 110, 116, 59, 32]⟩, .int .i64 ((K : Nat) : Int)] V fun e w' => e = .returned (.string R0) ∧ w' = V) := Hid.mk fun V => by rw [← hR0]; exact repeat_any [105, 110, 32, 97, 58, 32, 98, 32, 105, 110, 116, 59, 32] (K) V (by decide) (by omega)
  have sR0 : R0.size ≤ 400 := by rw [← hR0]; show (repL _ _).toArray.size ≤ _; rw [List.size_toArray, repL_len]; simp only [List.length_cons, List.length_nil]; omega
  have HR0 := Hid.mk hR0
  clear hR0
  obtain ⟨R1, hR1⟩ : ∃ x, ba (repL [106, 111, 98, 32, 97, 32, 61, 32, 100, 105, 115, 116, 105, 110, 99, 116, 32, 98, 59, 32] (K)) = x := ⟨_, rfl⟩
  have CR1 : Hid (∀ V, Calls Tryz.prog 4 #[.string ⟨#[106, 111, 98, 32, 97, 32, 61, 32, 100, 105, 115, 116, 105, 110, 99, 116, 32, 98, 59, 32]⟩, .int .i64 ((K : Nat) : Int)] V fun e w' => e = .returned (.string R1) ∧ w' = V) := Hid.mk fun V => by rw [← hR1]; exact repeat_any [106, 111, 98, 32, 97, 32, 61, 32, 100, 105, 115, 116, 105, 110, 99, 116, 32, 98, 59, 32] (K) V (by decide) (by omega)
  have sR1 : R1.size ≤ 400 := by rw [← hR1]; show (repL _ _).toArray.size ≤ _; rw [List.size_toArray, repL_len]; simp only [List.length_cons, List.length_nil]; omega
  have HR1 := Hid.mk hR1
  clear hR1
  obtain ⟨R2, hR2⟩ : ∃ x, ba (repL [111, 117, 116, 32, 97, 32, 61, 32, 98, 59, 32] (K)) = x := ⟨_, rfl⟩
  have CR2 : Hid (∀ V, Calls Tryz.prog 4 #[.string ⟨#[111, 117, 116, 32, 97, 32, 61, 32, 98, 59, 32]⟩, .int .i64 ((K : Nat) : Int)] V fun e w' => e = .returned (.string R2) ∧ w' = V) := Hid.mk fun V => by rw [← hR2]; exact repeat_any [111, 117, 116, 32, 97, 32, 61, 32, 98, 59, 32] (K) V (by decide) (by omega)
  have sR2 : R2.size ≤ 400 := by rw [← hR2]; show (repL _ _).toArray.size ≤ _; rw [List.size_toArray, repL_len]; simp only [List.length_cons, List.length_nil]; omega
  have HR2 := Hid.mk hR2
  clear hR2
  obtain ⟨R3, hR3⟩ : ∃ x, ba (repL [44, 32, 100] (192 + M)) = x := ⟨_, rfl⟩
  have CR3 : Hid (∀ V, Calls Tryz.prog 4 #[.string ⟨#[44, 32, 100]⟩, .int .i64 ((192 + M : Nat) : Int)] V fun e w' => e = .returned (.string R3) ∧ w' = V) := Hid.mk fun V => by rw [← hR3]; exact repeat_any [44, 32, 100] (192 + M) V (by decide) (by omega)
  have sR3 : R3.size ≤ 600 := by rw [← hR3]; show (repL _ _).toArray.size ≤ _; rw [List.size_toArray, repL_len]; simp only [List.length_cons, List.length_nil]; omega
  have HR3 := Hid.mk hR3
  clear hR3
  obtain ⟨R4, hR4⟩ : ∃ x, ba (repL [49] (K % 4)) = x := ⟨_, rfl⟩
  have CR4 : Hid (∀ V, Calls Tryz.prog 4 #[.string ⟨#[49]⟩, .int .i64 ((K % 4 : Nat) : Int)] V fun e w' => e = .returned (.string R4) ∧ w' = V) := Hid.mk fun V => by rw [← hR4]; exact repeat_any [49] (K % 4) V (by decide) (by omega)
  have sR4 : R4.size ≤ 4 := by rw [← hR4]; show (repL _ _).toArray.size ≤ _; rw [List.size_toArray, repL_len]; simp only [List.length_cons, List.length_nil]; omega
  have HR4 := Hid.mk hR4
  clear hR4
  obtain ⟨R5, hR5⟩ : ∃ x, ba (repL [120] (8 + K)) = x := ⟨_, rfl⟩
  have CR5 : Hid (∀ V, Calls Tryz.prog 4 #[.string ⟨#[120]⟩, .int .i64 ((8 + K : Nat) : Int)] V fun e w' => e = .returned (.string R5) ∧ w' = V) := Hid.mk fun V => by rw [← hR5]; exact repeat_any [120] (8 + K) V (by decide) (by omega)
  have sR5 : R5.size ≤ 30 := by rw [← hR5]; show (repL _ _).toArray.size ≤ _; rw [List.size_toArray, repL_len]; simp only [List.length_cons, List.length_nil]; omega
  have HR5 := Hid.mk hR5
  clear hR5
  have hY7 : ∀ r, r < 7 → ∃ y : ByteArray, y.size ≤ 20 ∧ ∀ w, (Instr.index 24 (.agg #[.string ⟨#[48]⟩, .string ⟨#[52]⟩, .string ⟨#[53]⟩, .string ⟨#[54]⟩, .string ⟨#[48, 48, 53]⟩, .string ⟨#[120]⟩, .string ⟨#[57, 57, 57, 57, 57, 57, 57, 57, 57, 57, 57, 57, 57, 57, 57, 57, 57, 57, 57, 57]⟩]) (.int .i64 ((r : Nat) : Int))).run Tryz.prog w = .ok (.string y) w := by
    intro r hr
    match r, hr with
    | 0, _ => exact ⟨⟨#[48]⟩, by decide, fun w => by kernel_rfl⟩
    | 1, _ => exact ⟨⟨#[52]⟩, by decide, fun w => by kernel_rfl⟩
    | 2, _ => exact ⟨⟨#[53]⟩, by decide, fun w => by kernel_rfl⟩
    | 3, _ => exact ⟨⟨#[54]⟩, by decide, fun w => by kernel_rfl⟩
    | 4, _ => exact ⟨⟨#[48, 48, 53]⟩, by decide, fun w => by kernel_rfl⟩
    | 5, _ => exact ⟨⟨#[120]⟩, by decide, fun w => by kernel_rfl⟩
    | 6, _ => exact ⟨⟨#[57, 57, 57, 57, 57, 57, 57, 57, 57, 57, 57, 57, 57, 57, 57, 57, 57, 57, 57, 57]⟩, by decide, fun w => by kernel_rfl⟩
  have hY9 : ∀ r, r < 9 → ∃ y : ByteArray, y.size ≤ 20 ∧ ∀ w, (Instr.index 25 (.agg #[.string ⟨#[49, 48, 48, 48, 48, 48, 48, 48, 48, 48]⟩, .string ⟨#[49, 48, 48, 48, 48, 48, 48, 48, 48, 49]⟩, .string ⟨#[45, 49, 48, 48, 48, 48, 48, 48, 48, 48, 48]⟩, .string ⟨#[45, 49, 48, 48, 48, 48, 48, 48, 48, 48, 49]⟩, .string ⟨#[45, 32, 53]⟩, .string ⟨#[45, 45, 53]⟩, .string ⟨#[45, 32, 39, 97, 39]⟩, .string ⟨#[57, 57, 57, 57, 57, 57, 57, 57, 57, 57, 57, 57, 57, 57, 57, 57, 57, 57, 57, 57]⟩, .string ⟨#[48, 48]⟩]) (.int .i64 ((r : Nat) : Int))).run Tryz.prog w = .ok (.string y) w := by
    intro r hr
    match r, hr with
    | 0, _ => exact ⟨⟨#[49, 48, 48, 48, 48, 48, 48, 48, 48, 48]⟩, by decide, fun w => by kernel_rfl⟩
    | 1, _ => exact ⟨⟨#[49, 48, 48, 48, 48, 48, 48, 48, 48, 49]⟩, by decide, fun w => by kernel_rfl⟩
    | 2, _ => exact ⟨⟨#[45, 49, 48, 48, 48, 48, 48, 48, 48, 48, 48]⟩, by decide, fun w => by kernel_rfl⟩
    | 3, _ => exact ⟨⟨#[45, 49, 48, 48, 48, 48, 48, 48, 48, 48, 49]⟩, by decide, fun w => by kernel_rfl⟩
    | 4, _ => exact ⟨⟨#[45, 32, 53]⟩, by decide, fun w => by kernel_rfl⟩
    | 5, _ => exact ⟨⟨#[45, 45, 53]⟩, by decide, fun w => by kernel_rfl⟩
    | 6, _ => exact ⟨⟨#[45, 32, 39, 97, 39]⟩, by decide, fun w => by kernel_rfl⟩
    | 7, _ => exact ⟨⟨#[57, 57, 57, 57, 57, 57, 57, 57, 57, 57, 57, 57, 57, 57, 57, 57, 57, 57, 57, 57]⟩, by decide, fun w => by kernel_rfl⟩
    | 8, _ => exact ⟨⟨#[48, 48]⟩, by decide, fun w => by kernel_rfl⟩
  obtain ⟨Y7, sY7, i7⟩ := hY7 (K % 7) (Nat.mod_lt _ (by omega))
  obtain ⟨Y9, sY9, i9⟩ := hY9 (K % 9) (Nat.mod_lt _ (by omega))
  clear hY7 hY9
  rw [show ((K % 7 : Nat) : Int) = (K : Int) % 7 by simp] at i7
  rw [show ((K % 9 : Nat) : Int) = (K : Int) % 9 by simp] at i9
  go_enter Tryz.func3, Tryz.ntmps3
  go_upto_region 4 with fail
  refine wp_region_any (by kernel_rfl) ?_
  refine wpAny_take (i := 0) (v := .int .i64 (K : Nat)) rfl (by kernel_rfl) (by kernel_rfl) (by kernel_rfl) (fun _ _ _ h => h) (Or.inl ⟨by rfl, ?_⟩) ?_
  · intro V
    go_simp
  simp only [List.getElem_toArray, List.getElem_cons_zero, List.getElem_cons_succ, Act.put, List.setIfInBounds_toArray, List.set_cons_zero, List.set_cons_succ]

  refine wpAny_take (i := 2) (v := .int .i64 (K : Nat)) rfl (by kernel_rfl) (by kernel_rfl) (by kernel_rfl) (fun _ _ _ h => h) (Or.inl ⟨by rfl, ?_⟩) ?_
  · intro V
    go_simp
  simp only [List.getElem_toArray, List.getElem_cons_zero, List.getElem_cons_succ, Act.put, List.setIfInBounds_toArray, List.set_cons_zero, List.set_cons_succ]

  refine wpAny_take (i := 5) (v := .int .i64 (K : Nat)) rfl (by kernel_rfl) (by kernel_rfl) (by kernel_rfl) (fun _ _ _ h => h) (Or.inl ⟨by rfl, ?_⟩) ?_
  · intro V
    go_simp
  simp only [List.getElem_toArray, List.getElem_cons_zero, List.getElem_cons_succ, Act.put, List.setIfInBounds_toArray, List.set_cons_zero, List.set_cons_succ]

  refine wpAny_take (i := 26) (v := .int .i64 (K : Nat)) rfl (by kernel_rfl) (by kernel_rfl) (by kernel_rfl) (fun _ _ _ h => h) (Or.inl ⟨by rfl, ?_⟩) ?_
  · intro V
    go_simp
  simp only [List.getElem_toArray, List.getElem_cons_zero, List.getElem_cons_succ, Act.put, List.setIfInBounds_toArray, List.set_cons_zero, List.set_cons_succ]

  refine wpAny_take (i := 37) (v := .int .i64 (K : Nat)) rfl (by kernel_rfl) (by kernel_rfl) (by kernel_rfl) (fun _ _ _ h => h) (Or.inl ⟨by rfl, ?_⟩) ?_
  · intro V
    go_simp
  simp only [List.getElem_toArray, List.getElem_cons_zero, List.getElem_cons_succ, Act.put, List.setIfInBounds_toArray, List.set_cons_zero, List.set_cons_succ]

  refine wpAny_take (i := 43) (v := .int .i64 (K : Nat)) rfl (by kernel_rfl) (by kernel_rfl) (by kernel_rfl) (fun _ _ _ h => h) (Or.inl ⟨by rfl, ?_⟩) ?_
  · intro V
    go_simp
  simp only [List.getElem_toArray, List.getElem_cons_zero, List.getElem_cons_succ, Act.put, List.setIfInBounds_toArray, List.set_cons_zero, List.set_cons_succ]

  refine wpAny_take (i := 48) (v := .int .i64 (K : Nat)) rfl (by kernel_rfl) (by kernel_rfl) (by kernel_rfl) (fun _ _ _ h => h) (Or.inl ⟨by rfl, ?_⟩) ?_
  · intro V
    go_simp
  simp only [List.getElem_toArray, List.getElem_cons_zero, List.getElem_cons_succ, Act.put, List.setIfInBounds_toArray, List.set_cons_zero, List.set_cons_succ]

  refine wpAny_take (i := 7) (v := .int .i64 m) rfl (by kernel_rfl) (by kernel_rfl) (by kernel_rfl) (fun _ _ _ h => h) (Or.inl ⟨by rfl, ?_⟩) ?_
  · intro V
    go_simp
  simp only [List.getElem_toArray, List.getElem_cons_zero, List.getElem_cons_succ, Act.put, List.setIfInBounds_toArray, List.set_cons_zero, List.set_cons_succ]

  refine wpAny_take (i := 8) (v := .int .u64 (IntKind.u64.wrap m)) rfl (by kernel_rfl) (by kernel_rfl) (by kernel_rfl) (fun _ _ _ h => h) (Or.inl ⟨by rfl, ?_⟩) ?_
  · intro V
    go_simp
  simp only [List.getElem_toArray, List.getElem_cons_zero, List.getElem_cons_succ, Act.put, List.setIfInBounds_toArray, List.set_cons_zero, List.set_cons_succ]

  refine wpAny_take (i := 9) (v := .int .u64 ((IntKind.u64.wrap m).tmod 8)) rfl (by kernel_rfl) (by kernel_rfl) (by kernel_rfl) (fun _ _ _ h => h) (Or.inl ⟨by rfl, ?_⟩) ?_
  · intro V
    go_simp
  simp only [List.getElem_toArray, List.getElem_cons_zero, List.getElem_cons_succ, Act.put, List.setIfInBounds_toArray, List.set_cons_zero, List.set_cons_succ]

  refine wpAny_take (i := 10) (v := .int .i64 (M : Nat)) rfl (by kernel_rfl) (by kernel_rfl) (by kernel_rfl) (fun _ _ _ h => h) (Or.inl ⟨by rfl, ?_⟩) ?_
  · intro V
    go_simp
  simp only [List.getElem_toArray, List.getElem_cons_zero, List.getElem_cons_succ, Act.put, List.setIfInBounds_toArray, List.set_cons_zero, List.set_cons_succ]

  refine wpAny_take (i := 11) (v := .int .i64 ((192 + M : Nat) : Int)) rfl (by kernel_rfl) (by kernel_rfl) (by kernel_rfl) (fun _ _ _ h => h) (Or.inl ⟨by rfl, ?_⟩) ?_
  · intro V
    go_simp
  simp only [List.getElem_toArray, List.getElem_cons_zero, List.getElem_cons_succ, Act.put, List.setIfInBounds_toArray, List.set_cons_zero, List.set_cons_succ]

  refine wpAny_take (i := 15) (v := .string NB) rfl (by kernel_rfl) (by kernel_rfl) (by kernel_rfl) (fun _ _ _ h => h) (Or.inl ⟨by rfl, ?_⟩) ?_
  · intro V
    go_simp
  simp only [List.getElem_toArray, List.getElem_cons_zero, List.getElem_cons_succ, Act.put, List.setIfInBounds_toArray, List.set_cons_zero, List.set_cons_succ]

  refine wpAny_take (i := 18) (v := .string NB) rfl (by kernel_rfl) (by kernel_rfl) (by kernel_rfl) (fun _ _ _ h => h) (Or.inl ⟨by rfl, ?_⟩) ?_
  · intro V
    go_simp
  simp only [List.getElem_toArray, List.getElem_cons_zero, List.getElem_cons_succ, Act.put, List.setIfInBounds_toArray, List.set_cons_zero, List.set_cons_succ]

  refine wpAny_take (i := 20) (v := .string NB) rfl (by kernel_rfl) (by kernel_rfl) (by kernel_rfl) (fun _ _ _ h => h) (Or.inl ⟨by rfl, ?_⟩) ?_
  · intro V
    go_simp
  simp only [List.getElem_toArray, List.getElem_cons_zero, List.getElem_cons_succ, Act.put, List.setIfInBounds_toArray, List.set_cons_zero, List.set_cons_succ]

  refine wpAny_take (i := 23) (v := .string NB) rfl (by kernel_rfl) (by kernel_rfl) (by kernel_rfl) (fun _ _ _ h => h) (Or.inl ⟨by rfl, ?_⟩) ?_
  · intro V
    go_simp
  simp only [List.getElem_toArray, List.getElem_cons_zero, List.getElem_cons_succ, Act.put, List.setIfInBounds_toArray, List.set_cons_zero, List.set_cons_succ]

  refine wpAny_take (i := 31) (v := .string NB) rfl (by kernel_rfl) (by kernel_rfl) (by kernel_rfl) (fun _ _ _ h => h) (Or.inl ⟨by rfl, ?_⟩) ?_
  · intro V
    go_simp
  simp only [List.getElem_toArray, List.getElem_cons_zero, List.getElem_cons_succ, Act.put, List.setIfInBounds_toArray, List.set_cons_zero, List.set_cons_succ]

  refine wpAny_take (i := 33) (v := .string NB) rfl (by kernel_rfl) (by kernel_rfl) (by kernel_rfl) (fun _ _ _ h => h) (Or.inl ⟨by rfl, ?_⟩) ?_
  · intro V
    go_simp
  simp only [List.getElem_toArray, List.getElem_cons_zero, List.getElem_cons_succ, Act.put, List.setIfInBounds_toArray, List.set_cons_zero, List.set_cons_succ]

  refine wpAny_take (i := 53) (v := .string NB) rfl (by kernel_rfl) (by kernel_rfl) (by kernel_rfl) (fun _ _ _ h => h) (Or.inl ⟨by rfl, ?_⟩) ?_
  · intro V
    go_simp
  simp only [List.getElem_toArray, List.getElem_cons_zero, List.getElem_cons_succ, Act.put, List.setIfInBounds_toArray, List.set_cons_zero, List.set_cons_succ]

  obtain ⟨X16, hX16⟩ : ∃ x : ByteArray, ⟨#[105, 110, 32]⟩ ++ NB = x := ⟨_, rfl⟩
  have sX16 : X16.size ≤ 23 := cat_size (n := 3) (m := 20) hX16 (by decide) sNB
  have zX16 : ¬ 9223372036854775807 < 3 + NB.size := by omega
  refine wpAny_take (i := 16) (v := .string X16) rfl (by kernel_rfl) (by kernel_rfl) (by kernel_rfl) (fun _ _ _ h => h) (Or.inl ⟨by rfl, ?_⟩) ?_
  · intro V
    go_simp
  simp only [List.getElem_toArray, List.getElem_cons_zero, List.getElem_cons_succ, Act.put, List.setIfInBounds_toArray, List.set_cons_zero, List.set_cons_succ]

  have HX16 := Hid.mk hX16
  clear zX16 hX16
  obtain ⟨X17, hX17⟩ : ∃ x : ByteArray, X16 ++ ⟨#[58, 32]⟩ = x := ⟨_, rfl⟩
  have sX17 : X17.size ≤ 25 := cat_size (n := 23) (m := 2) hX17 sX16 (by decide)
  have zX17 : ¬ 9223372036854775807 < X16.size + 2 := by omega
  refine wpAny_take (i := 17) (v := .string X17) rfl (by kernel_rfl) (by kernel_rfl) (by kernel_rfl) (fun _ _ _ h => h) (Or.inl ⟨by rfl, ?_⟩) ?_
  · intro V
    go_simp
  simp only [List.getElem_toArray, List.getElem_cons_zero, List.getElem_cons_succ, Act.put, List.setIfInBounds_toArray, List.set_cons_zero, List.set_cons_succ]

  have HX17 := Hid.mk hX17
  clear zX17 hX17
  obtain ⟨X19, hX19⟩ : ∃ x : ByteArray, X17 ++ NB = x := ⟨_, rfl⟩
  have sX19 : X19.size ≤ 45 := cat_size (n := 25) (m := 20) hX19 sX17 sNB
  have zX19 : ¬ 9223372036854775807 < X17.size + NB.size := by omega
  refine wpAny_take (i := 19) (v := .string X19) rfl (by kernel_rfl) (by kernel_rfl) (by kernel_rfl) (fun _ _ _ h => h) (Or.inl ⟨by rfl, ?_⟩) ?_
  · intro V
    go_simp
  simp only [List.getElem_toArray, List.getElem_cons_zero, List.getElem_cons_succ, Act.put, List.setIfInBounds_toArray, List.set_cons_zero, List.set_cons_succ]

  have HX19 := Hid.mk hX19
  clear zX19 hX19
  obtain ⟨X21, hX21⟩ : ∃ x : ByteArray, X19 ++ NB = x := ⟨_, rfl⟩
  have sX21 : X21.size ≤ 65 := cat_size (n := 45) (m := 20) hX21 sX19 sNB
  have zX21 : ¬ 9223372036854775807 < X19.size + NB.size := by omega
  refine wpAny_take (i := 21) (v := .string X21) rfl (by kernel_rfl) (by kernel_rfl) (by kernel_rfl) (fun _ _ _ h => h) (Or.inl ⟨by rfl, ?_⟩) ?_
  · intro V
    go_simp
  simp only [List.getElem_toArray, List.getElem_cons_zero, List.getElem_cons_succ, Act.put, List.setIfInBounds_toArray, List.set_cons_zero, List.set_cons_succ]

  have HX21 := Hid.mk hX21
  clear zX21 hX21
  obtain ⟨X22, hX22⟩ : ∃ x : ByteArray, X21 ++ ⟨#[32, 105, 110, 116, 59]⟩ = x := ⟨_, rfl⟩
  have sX22 : X22.size ≤ 70 := cat_size (n := 65) (m := 5) hX22 sX21 (by decide)
  have zX22 : ¬ 9223372036854775807 < X21.size + 5 := by omega
  refine wpAny_take (i := 22) (v := .string X22) rfl (by kernel_rfl) (by kernel_rfl) (by kernel_rfl) (fun _ _ _ h => h) (Or.inl ⟨by rfl, ?_⟩) ?_
  · intro V
    go_simp
  simp only [List.getElem_toArray, List.getElem_cons_zero, List.getElem_cons_succ, Act.put, List.setIfInBounds_toArray, List.set_cons_zero, List.set_cons_succ]

  have HX22 := Hid.mk hX22
  clear zX22 hX22
  obtain ⟨X24, hX24⟩ : ∃ x : ByteArray, ⟨#[106, 111, 98, 32]⟩ ++ NB = x := ⟨_, rfl⟩
  have sX24 : X24.size ≤ 24 := cat_size (n := 4) (m := 20) hX24 (by decide) sNB
  have zX24 : ¬ 9223372036854775807 < 4 + NB.size := by omega
  refine wpAny_take (i := 24) (v := .string X24) rfl (by kernel_rfl) (by kernel_rfl) (by kernel_rfl) (fun _ _ _ h => h) (Or.inl ⟨by rfl, ?_⟩) ?_
  · intro V
    go_simp
  simp only [List.getElem_toArray, List.getElem_cons_zero, List.getElem_cons_succ, Act.put, List.setIfInBounds_toArray, List.set_cons_zero, List.set_cons_succ]

  have HX24 := Hid.mk hX24
  clear zX24 hX24
  obtain ⟨X25, hX25⟩ : ∃ x : ByteArray, X24 ++ ⟨#[32, 114, 101, 116, 114, 121, 32]⟩ = x := ⟨_, rfl⟩
  have sX25 : X25.size ≤ 31 := cat_size (n := 24) (m := 7) hX25 sX24 (by decide)
  have zX25 : ¬ 9223372036854775807 < X24.size + 7 := by omega
  refine wpAny_take (i := 25) (v := .string X25) rfl (by kernel_rfl) (by kernel_rfl) (by kernel_rfl) (fun _ _ _ h => h) (Or.inl ⟨by rfl, ?_⟩) ?_
  · intro V
    go_simp
  simp only [List.getElem_toArray, List.getElem_cons_zero, List.getElem_cons_succ, Act.put, List.setIfInBounds_toArray, List.set_cons_zero, List.set_cons_succ]

  have HX25 := Hid.mk hX25
  clear zX25 hX25
  refine wpAny_take (i := 27) (v := .int .i64 ((K % 4 : Nat) : Int)) rfl (by kernel_rfl) (by kernel_rfl) (by kernel_rfl) (fun _ _ _ h => h) (Or.inl ⟨by rfl, ?_⟩) ?_
  · intro V
    go_simp
  simp only [List.getElem_toArray, List.getElem_cons_zero, List.getElem_cons_succ, Act.put, List.setIfInBounds_toArray, List.set_cons_zero, List.set_cons_succ]

  refine wpAny_take (i := 36) (v := .agg #[.string ⟨#[48]⟩, .string ⟨#[52]⟩, .string ⟨#[53]⟩, .string ⟨#[54]⟩, .string ⟨#[48, 48, 53]⟩, .string ⟨#[120]⟩, .string ⟨#[57, 57, 57, 57, 57, 57, 57, 57, 57, 57, 57, 57, 57, 57, 57, 57, 57, 57, 57, 57]⟩]) rfl (by kernel_rfl) (by kernel_rfl) (by kernel_rfl) (fun _ _ _ h => h) (Or.inl ⟨by rfl, ?_⟩) ?_
  · intro V
    go_simp
  simp only [List.getElem_toArray, List.getElem_cons_zero, List.getElem_cons_succ, Act.put, List.setIfInBounds_toArray, List.set_cons_zero, List.set_cons_succ]

  refine wpAny_take (i := 38) (v := .int .i64 ((K % 7 : Nat) : Int)) rfl (by kernel_rfl) (by kernel_rfl) (by kernel_rfl) (fun _ _ _ h => h) (Or.inl ⟨by rfl, ?_⟩) ?_
  · intro V
    go_simp
  simp only [List.getElem_toArray, List.getElem_cons_zero, List.getElem_cons_succ, Act.put, List.setIfInBounds_toArray, List.set_cons_zero, List.set_cons_succ]

  refine wpAny_take (i := 39) (v := .string Y7) rfl (by kernel_rfl) (by kernel_rfl) (by kernel_rfl) (fun _ _ _ h => h) (Or.inl ⟨by rfl, ?_⟩) ?_
  · intro V
    go_simp
  simp only [List.getElem_toArray, List.getElem_cons_zero, List.getElem_cons_succ, Act.put, List.setIfInBounds_toArray, List.set_cons_zero, List.set_cons_succ]

  obtain ⟨X40, hX40⟩ : ∃ x : ByteArray, ⟨#[106, 111, 98, 32, 97, 32, 114, 101, 116, 114, 121, 32]⟩ ++ Y7 = x := ⟨_, rfl⟩
  have sX40 : X40.size ≤ 32 := cat_size (n := 12) (m := 20) hX40 (by decide) sY7
  have zX40 : ¬ 9223372036854775807 < 12 + Y7.size := by omega
  refine wpAny_take (i := 40) (v := .string X40) rfl (by kernel_rfl) (by kernel_rfl) (by kernel_rfl) (fun _ _ _ h => h) (Or.inl ⟨by rfl, ?_⟩) ?_
  · intro V
    go_simp
  simp only [List.getElem_toArray, List.getElem_cons_zero, List.getElem_cons_succ, Act.put, List.setIfInBounds_toArray, List.set_cons_zero, List.set_cons_succ]

  have HX40 := Hid.mk hX40
  clear zX40 hX40
  obtain ⟨X41, hX41⟩ : ∃ x : ByteArray, X40 ++ ⟨#[32, 61, 32, 100, 105, 115, 116, 105, 110, 99, 116, 32, 98, 59]⟩ = x := ⟨_, rfl⟩
  have sX41 : X41.size ≤ 46 := cat_size (n := 32) (m := 14) hX41 sX40 (by decide)
  have zX41 : ¬ 9223372036854775807 < X40.size + 14 := by omega
  refine wpAny_take (i := 41) (v := .string X41) rfl (by kernel_rfl) (by kernel_rfl) (by kernel_rfl) (fun _ _ _ h => h) (Or.inl ⟨by rfl, ?_⟩) ?_
  · intro V
    go_simp
  simp only [List.getElem_toArray, List.getElem_cons_zero, List.getElem_cons_succ, Act.put, List.setIfInBounds_toArray, List.set_cons_zero, List.set_cons_succ]

  have HX41 := Hid.mk hX41
  clear zX41 hX41
  refine wpAny_take (i := 42) (v := .agg #[.string ⟨#[49, 48, 48, 48, 48, 48, 48, 48, 48, 48]⟩, .string ⟨#[49, 48, 48, 48, 48, 48, 48, 48, 48, 49]⟩, .string ⟨#[45, 49, 48, 48, 48, 48, 48, 48, 48, 48, 48]⟩, .string ⟨#[45, 49, 48, 48, 48, 48, 48, 48, 48, 48, 49]⟩, .string ⟨#[45, 32, 53]⟩, .string ⟨#[45, 45, 53]⟩, .string ⟨#[45, 32, 39, 97, 39]⟩, .string ⟨#[57, 57, 57, 57, 57, 57, 57, 57, 57, 57, 57, 57, 57, 57, 57, 57, 57, 57, 57, 57]⟩, .string ⟨#[48, 48]⟩]) rfl (by kernel_rfl) (by kernel_rfl) (by kernel_rfl) (fun _ _ _ h => h) (Or.inl ⟨by rfl, ?_⟩) ?_
  · intro V
    go_simp
  simp only [List.getElem_toArray, List.getElem_cons_zero, List.getElem_cons_succ, Act.put, List.setIfInBounds_toArray, List.set_cons_zero, List.set_cons_succ]

  refine wpAny_take (i := 44) (v := .int .i64 ((K % 9 : Nat) : Int)) rfl (by kernel_rfl) (by kernel_rfl) (by kernel_rfl) (fun _ _ _ h => h) (Or.inl ⟨by rfl, ?_⟩) ?_
  · intro V
    go_simp
  simp only [List.getElem_toArray, List.getElem_cons_zero, List.getElem_cons_succ, Act.put, List.setIfInBounds_toArray, List.set_cons_zero, List.set_cons_succ]

  refine wpAny_take (i := 45) (v := .string Y9) rfl (by kernel_rfl) (by kernel_rfl) (by kernel_rfl) (fun _ _ _ h => h) (Or.inl ⟨by rfl, ?_⟩) ?_
  · intro V
    go_simp
  simp only [List.getElem_toArray, List.getElem_cons_zero, List.getElem_cons_succ, Act.put, List.setIfInBounds_toArray, List.set_cons_zero, List.set_cons_succ]

  obtain ⟨X46, hX46⟩ : ∃ x : ByteArray, ⟨#[106, 111, 98, 32, 97, 32, 61, 32, 102, 105, 108, 116, 101, 114, 32, 98, 32, 119, 104, 101, 114, 101, 32, 99, 32, 60, 32]⟩ ++ Y9 = x := ⟨_, rfl⟩
  have sX46 : X46.size ≤ 47 := cat_size (n := 27) (m := 20) hX46 (by decide) sY9
  have zX46 : ¬ 9223372036854775807 < 27 + Y9.size := by omega
  refine wpAny_take (i := 46) (v := .string X46) rfl (by kernel_rfl) (by kernel_rfl) (by kernel_rfl) (fun _ _ _ h => h) (Or.inl ⟨by rfl, ?_⟩) ?_
  · intro V
    go_simp
  simp only [List.getElem_toArray, List.getElem_cons_zero, List.getElem_cons_succ, Act.put, List.setIfInBounds_toArray, List.set_cons_zero, List.set_cons_succ]

  have HX46 := Hid.mk hX46
  clear zX46 hX46
  obtain ⟨X47, hX47⟩ : ∃ x : ByteArray, X46 ++ ⟨#[59]⟩ = x := ⟨_, rfl⟩
  have sX47 : X47.size ≤ 48 := cat_size (n := 47) (m := 1) hX47 sX46 (by decide)
  have zX47 : ¬ 9223372036854775807 < X46.size + 1 := by omega
  refine wpAny_take (i := 47) (v := .string X47) rfl (by kernel_rfl) (by kernel_rfl) (by kernel_rfl) (fun _ _ _ h => h) (Or.inl ⟨by rfl, ?_⟩) ?_
  · intro V
    go_simp
  simp only [List.getElem_toArray, List.getElem_cons_zero, List.getElem_cons_succ, Act.put, List.setIfInBounds_toArray, List.set_cons_zero, List.set_cons_succ]

  have HX47 := Hid.mk hX47
  clear zX47 hX47
  refine wpAny_take (i := 49) (v := .int .i64 ((8 + K : Nat) : Int)) rfl (by kernel_rfl) (by kernel_rfl) (by kernel_rfl) (fun _ _ _ h => h) (Or.inl ⟨by rfl, ?_⟩) ?_
  · intro V
    go_simp
  simp only [List.getElem_toArray, List.getElem_cons_zero, List.getElem_cons_succ, Act.put, List.setIfInBounds_toArray, List.set_cons_zero, List.set_cons_succ]

  obtain ⟨X54, hX54⟩ : ∃ x : ByteArray, ⟨#[106, 111, 98, 32, 97, 32, 61, 32, 102, 105, 108, 116, 101, 114, 32, 98, 32, 119, 104, 101, 114, 101, 32, 99, 32, 61, 32, 39]⟩ ++ NB = x := ⟨_, rfl⟩
  have sX54 : X54.size ≤ 48 := cat_size (n := 28) (m := 20) hX54 (by decide) sNB
  have zX54 : ¬ 9223372036854775807 < 28 + NB.size := by omega
  refine wpAny_take (i := 54) (v := .string X54) rfl (by kernel_rfl) (by kernel_rfl) (by kernel_rfl) (fun _ _ _ h => h) (Or.inl ⟨by rfl, ?_⟩) ?_
  · intro V
    go_simp
  simp only [List.getElem_toArray, List.getElem_cons_zero, List.getElem_cons_succ, Act.put, List.setIfInBounds_toArray, List.set_cons_zero, List.set_cons_succ]

  have HX54 := Hid.mk hX54
  clear zX54 hX54
  obtain ⟨X55, hX55⟩ : ∃ x : ByteArray, X54 ++ ⟨#[39, 59]⟩ = x := ⟨_, rfl⟩
  have sX55 : X55.size ≤ 50 := cat_size (n := 48) (m := 2) hX55 sX54 (by decide)
  have zX55 : ¬ 9223372036854775807 < X54.size + 2 := by omega
  refine wpAny_take (i := 55) (v := .string X55) rfl (by kernel_rfl) (by kernel_rfl) (by kernel_rfl) (fun _ _ _ h => h) (Or.inl ⟨by rfl, ?_⟩) ?_
  · intro V
    go_simp
  simp only [List.getElem_toArray, List.getElem_cons_zero, List.getElem_cons_succ, Act.put, List.setIfInBounds_toArray, List.set_cons_zero, List.set_cons_succ]

  have HX55 := Hid.mk hX55
  clear zX55 hX55
  refine wpAny_ready (rs := [1]) (by kernel_rfl) (by simp) ?_
  refine AllReady.cons rfl (fun KK hKK => ?_) AllReady.nil
  go_simp
  refine (CR0.out _).mono ?_
  rintro e V' ⟨rfl, hV'⟩
  subst hV'
  refine hKK _ _ ?_
  clear hKK KK
  try simp only [List.getElem_toArray, List.getElem_cons_zero, List.getElem_cons_succ, Act.put, List.setIfInBounds_toArray, List.set_cons_zero, List.set_cons_succ]

  refine wpAny_ready (rs := [3]) (by kernel_rfl) (by simp) ?_
  refine AllReady.cons rfl (fun KK hKK => ?_) AllReady.nil
  go_simp
  refine (CR1.out _).mono ?_
  rintro e V' ⟨rfl, hV'⟩
  subst hV'
  refine hKK _ _ ?_
  clear hKK KK
  try simp only [List.getElem_toArray, List.getElem_cons_zero, List.getElem_cons_succ, Act.put, List.setIfInBounds_toArray, List.set_cons_zero, List.set_cons_succ]

  obtain ⟨X4, hX4⟩ : ∃ x : ByteArray, R1 ++ ⟨#[120]⟩ = x := ⟨_, rfl⟩
  have sX4 : X4.size ≤ 401 := cat_size (n := 400) (m := 1) hX4 sR1 (by decide)
  have zX4 : ¬ 9223372036854775807 < R1.size + 1 := by omega
  refine wpAny_take (i := 4) (v := .string X4) rfl (by kernel_rfl) (by kernel_rfl) (by kernel_rfl) (fun _ _ _ h => h) (Or.inl ⟨by rfl, ?_⟩) ?_
  · intro V
    go_simp
  simp only [List.getElem_toArray, List.getElem_cons_zero, List.getElem_cons_succ, Act.put, List.setIfInBounds_toArray, List.set_cons_zero, List.set_cons_succ]

  have HX4 := Hid.mk hX4
  clear zX4 hX4
  refine wpAny_ready (rs := [6]) (by kernel_rfl) (by simp) ?_
  refine AllReady.cons rfl (fun KK hKK => ?_) AllReady.nil
  go_simp
  refine (CR2.out _).mono ?_
  rintro e V' ⟨rfl, hV'⟩
  subst hV'
  refine hKK _ _ ?_
  clear hKK KK
  try simp only [List.getElem_toArray, List.getElem_cons_zero, List.getElem_cons_succ, Act.put, List.setIfInBounds_toArray, List.set_cons_zero, List.set_cons_succ]

  refine wpAny_ready (rs := [12]) (by kernel_rfl) (by simp) ?_
  refine AllReady.cons rfl (fun KK hKK => ?_) AllReady.nil
  go_simp
  refine (CR3.out _).mono ?_
  rintro e V' ⟨rfl, hV'⟩
  subst hV'
  refine hKK _ _ ?_
  clear hKK KK
  try simp only [List.getElem_toArray, List.getElem_cons_zero, List.getElem_cons_succ, Act.put, List.setIfInBounds_toArray, List.set_cons_zero, List.set_cons_succ]

  obtain ⟨X13, hX13⟩ : ∃ x : ByteArray, ⟨#[106, 111, 98, 32, 97, 32, 61, 32, 112, 114, 111, 106, 101, 99, 116, 32, 98, 32, 98, 121, 32, 99]⟩ ++ R3 = x := ⟨_, rfl⟩
  have sX13 : X13.size ≤ 622 := cat_size (n := 22) (m := 600) hX13 (by decide) sR3
  have zX13 : ¬ 9223372036854775807 < 22 + R3.size := by omega
  refine wpAny_take (i := 13) (v := .string X13) rfl (by kernel_rfl) (by kernel_rfl) (by kernel_rfl) (fun _ _ _ h => h) (Or.inl ⟨by rfl, ?_⟩) ?_
  · intro V
    go_simp
  simp only [List.getElem_toArray, List.getElem_cons_zero, List.getElem_cons_succ, Act.put, List.setIfInBounds_toArray, List.set_cons_zero, List.set_cons_succ]

  have HX13 := Hid.mk hX13
  clear zX13 hX13
  obtain ⟨X14, hX14⟩ : ∃ x : ByteArray, X13 ++ ⟨#[59]⟩ = x := ⟨_, rfl⟩
  have sX14 : X14.size ≤ 623 := cat_size (n := 622) (m := 1) hX14 sX13 (by decide)
  have zX14 : ¬ 9223372036854775807 < X13.size + 1 := by omega
  refine wpAny_take (i := 14) (v := .string X14) rfl (by kernel_rfl) (by kernel_rfl) (by kernel_rfl) (fun _ _ _ h => h) (Or.inl ⟨by rfl, ?_⟩) ?_
  · intro V
    go_simp
  simp only [List.getElem_toArray, List.getElem_cons_zero, List.getElem_cons_succ, Act.put, List.setIfInBounds_toArray, List.set_cons_zero, List.set_cons_succ]

  have HX14 := Hid.mk hX14
  clear zX14 hX14
  refine wpAny_ready (rs := [28]) (by kernel_rfl) (by simp) ?_
  refine AllReady.cons rfl (fun KK hKK => ?_) AllReady.nil
  go_simp
  refine (CR4.out _).mono ?_
  rintro e V' ⟨rfl, hV'⟩
  subst hV'
  refine hKK _ _ ?_
  clear hKK KK
  try simp only [List.getElem_toArray, List.getElem_cons_zero, List.getElem_cons_succ, Act.put, List.setIfInBounds_toArray, List.set_cons_zero, List.set_cons_succ]

  obtain ⟨X29, hX29⟩ : ∃ x : ByteArray, X25 ++ R4 = x := ⟨_, rfl⟩
  have sX29 : X29.size ≤ 35 := cat_size (n := 31) (m := 4) hX29 sX25 sR4
  have zX29 : ¬ 9223372036854775807 < X25.size + R4.size := by omega
  refine wpAny_take (i := 29) (v := .string X29) rfl (by kernel_rfl) (by kernel_rfl) (by kernel_rfl) (fun _ _ _ h => h) (Or.inl ⟨by rfl, ?_⟩) ?_
  · intro V
    go_simp
  simp only [List.getElem_toArray, List.getElem_cons_zero, List.getElem_cons_succ, Act.put, List.setIfInBounds_toArray, List.set_cons_zero, List.set_cons_succ]

  have HX29 := Hid.mk hX29
  clear zX29 hX29
  obtain ⟨X30, hX30⟩ : ∃ x : ByteArray, X29 ++ ⟨#[32, 61, 32, 100, 105, 115, 116, 105, 110, 99, 116, 32]⟩ = x := ⟨_, rfl⟩
  have sX30 : X30.size ≤ 47 := cat_size (n := 35) (m := 12) hX30 sX29 (by decide)
  have zX30 : ¬ 9223372036854775807 < X29.size + 12 := by omega
  refine wpAny_take (i := 30) (v := .string X30) rfl (by kernel_rfl) (by kernel_rfl) (by kernel_rfl) (fun _ _ _ h => h) (Or.inl ⟨by rfl, ?_⟩) ?_
  · intro V
    go_simp
  simp only [List.getElem_toArray, List.getElem_cons_zero, List.getElem_cons_succ, Act.put, List.setIfInBounds_toArray, List.set_cons_zero, List.set_cons_succ]

  have HX30 := Hid.mk hX30
  clear zX30 hX30
  obtain ⟨X32, hX32⟩ : ∃ x : ByteArray, X30 ++ NB = x := ⟨_, rfl⟩
  have sX32 : X32.size ≤ 67 := cat_size (n := 47) (m := 20) hX32 sX30 sNB
  have zX32 : ¬ 9223372036854775807 < X30.size + NB.size := by omega
  refine wpAny_take (i := 32) (v := .string X32) rfl (by kernel_rfl) (by kernel_rfl) (by kernel_rfl) (fun _ _ _ h => h) (Or.inl ⟨by rfl, ?_⟩) ?_
  · intro V
    go_simp
  simp only [List.getElem_toArray, List.getElem_cons_zero, List.getElem_cons_succ, Act.put, List.setIfInBounds_toArray, List.set_cons_zero, List.set_cons_succ]

  have HX32 := Hid.mk hX32
  clear zX32 hX32
  obtain ⟨X34, hX34⟩ : ∃ x : ByteArray, X32 ++ NB = x := ⟨_, rfl⟩
  have sX34 : X34.size ≤ 87 := cat_size (n := 67) (m := 20) hX34 sX32 sNB
  have zX34 : ¬ 9223372036854775807 < X32.size + NB.size := by omega
  refine wpAny_take (i := 34) (v := .string X34) rfl (by kernel_rfl) (by kernel_rfl) (by kernel_rfl) (fun _ _ _ h => h) (Or.inl ⟨by rfl, ?_⟩) ?_
  · intro V
    go_simp
  simp only [List.getElem_toArray, List.getElem_cons_zero, List.getElem_cons_succ, Act.put, List.setIfInBounds_toArray, List.set_cons_zero, List.set_cons_succ]

  have HX34 := Hid.mk hX34
  clear zX34 hX34
  obtain ⟨X35, hX35⟩ : ∃ x : ByteArray, X34 ++ ⟨#[59]⟩ = x := ⟨_, rfl⟩
  have sX35 : X35.size ≤ 88 := cat_size (n := 87) (m := 1) hX35 sX34 (by decide)
  have zX35 : ¬ 9223372036854775807 < X34.size + 1 := by omega
  refine wpAny_take (i := 35) (v := .string X35) rfl (by kernel_rfl) (by kernel_rfl) (by kernel_rfl) (fun _ _ _ h => h) (Or.inl ⟨by rfl, ?_⟩) ?_
  · intro V
    go_simp
  simp only [List.getElem_toArray, List.getElem_cons_zero, List.getElem_cons_succ, Act.put, List.setIfInBounds_toArray, List.set_cons_zero, List.set_cons_succ]

  have HX35 := Hid.mk hX35
  clear zX35 hX35
  refine wpAny_ready (rs := [50]) (by kernel_rfl) (by simp) ?_
  refine AllReady.cons rfl (fun KK hKK => ?_) AllReady.nil
  go_simp
  refine (CR5.out _).mono ?_
  rintro e V' ⟨rfl, hV'⟩
  subst hV'
  refine hKK _ _ ?_
  clear hKK KK
  try simp only [List.getElem_toArray, List.getElem_cons_zero, List.getElem_cons_succ, Act.put, List.setIfInBounds_toArray, List.set_cons_zero, List.set_cons_succ]

  obtain ⟨X51, hX51⟩ : ∃ x : ByteArray, ⟨#[106, 111, 98, 32, 97, 32, 61, 32, 102, 105, 108, 116, 101, 114, 32, 98, 32, 119, 104, 101, 114, 101, 32, 99, 32, 61, 32, 39]⟩ ++ R5 = x := ⟨_, rfl⟩
  have sX51 : X51.size ≤ 58 := cat_size (n := 28) (m := 30) hX51 (by decide) sR5
  have zX51 : ¬ 9223372036854775807 < 28 + R5.size := by omega
  refine wpAny_take (i := 51) (v := .string X51) rfl (by kernel_rfl) (by kernel_rfl) (by kernel_rfl) (fun _ _ _ h => h) (Or.inl ⟨by rfl, ?_⟩) ?_
  · intro V
    go_simp
  simp only [List.getElem_toArray, List.getElem_cons_zero, List.getElem_cons_succ, Act.put, List.setIfInBounds_toArray, List.set_cons_zero, List.set_cons_succ]

  have HX51 := Hid.mk hX51
  clear zX51 hX51
  obtain ⟨X52, hX52⟩ : ∃ x : ByteArray, X51 ++ ⟨#[39, 59]⟩ = x := ⟨_, rfl⟩
  have sX52 : X52.size ≤ 60 := cat_size (n := 58) (m := 2) hX52 sX51 (by decide)
  have zX52 : ¬ 9223372036854775807 < X51.size + 2 := by omega
  refine wpAny_take (i := 52) (v := .string X52) rfl (by kernel_rfl) (by kernel_rfl) (by kernel_rfl) (fun _ _ _ h => h) (Or.inl ⟨by rfl, ?_⟩) ?_
  · intro V
    go_simp
  simp only [List.getElem_toArray, List.getElem_cons_zero, List.getElem_cons_succ, Act.put, List.setIfInBounds_toArray, List.set_cons_zero, List.set_cons_succ]

  have HX52 := Hid.mk hX52
  clear zX52 hX52
  refine wpAny_ready (rs := [56]) (by kernel_rfl) (by simp) ?_
  refine AllReady.cons rfl (fun KK hKK => ?_) AllReady.nil
  go_simp
  refine hKK _ _ ?_
  clear hKK KK
  try simp only [List.getElem_toArray, List.getElem_cons_zero, List.getElem_cons_succ, Act.put, List.setIfInBounds_toArray, List.set_cons_zero, List.set_cons_succ]

  refine wpAny_take (i := 57) (v := .slice (some ⟨w.heap.size, 0, none⟩) 10 10) rfl (by kernel_rfl) (by kernel_rfl) (by kernel_rfl) (fun _ _ _ h => h) (Or.inl ⟨by rfl, ?_⟩) ?_
  · intro V
    go_simp
  simp only [List.getElem_toArray, List.getElem_cons_zero, List.getElem_cons_succ, Act.put, List.setIfInBounds_toArray, List.set_cons_zero, List.set_cons_succ]

  refine wpAny_done (by kernel_rfl) ?_ _
  generalize hW1 : (w.alloc (.cells #[.string R0, .string X4, .string R2, .string X14, .string X22, .string X35, .string X41, .string X47, .string X52, .string X55] 9)).drew = W1
  have HB1 : Hid (Below w.heap.size w W1) := Hid.mk (by rw [← hW1]; exact (below_box _ _).drew)
  have HX1 : Hid (Box W1 w.heap.size [.string R0, .string X4, .string R2, .string X14, .string X22, .string X35, .string X41, .string X47, .string X52, .string X55]) := Hid.mk (by rw [← hW1]; exact (Box.new w _ _ _ rfl).below (Below.refl _ _).drew)
  clear hW1 CR0 CR1 CR2 CR3 CR4 CR5 i7 i9 m4 m7 m9 hMw w192 w8 hKe hMe hn0
  have HTX : Hid (∀ i, i < 10 → ∃ l : By, W1.cell? ⟨w.heap.size, i, none⟩ = some (.string (ba l)) ∧ l.length ≤ 100000 ∧ parseF l = refF l) := Hid.mk (by
    have lR0 : R0.data.toList = repL [105, 110, 32, 97, 58, 32, 98, 32, 105, 110, 116, 59, 32] (K) := by rw [← HR0.out]
    have lR1 : R1.data.toList = repL [106, 111, 98, 32, 97, 32, 61, 32, 100, 105, 115, 116, 105, 110, 99, 116, 32, 98, 59, 32] (K) := by rw [← HR1.out]
    have lR2 : R2.data.toList = repL [111, 117, 116, 32, 97, 32, 61, 32, 98, 59, 32] (K) := by rw [← HR2.out]
    have lR3 : R3.data.toList = repL [44, 32, 100] (192 + M) := by rw [← HR3.out]
    have lR4 : R4.data.toList = repL [49] (K % 4) := by rw [← HR4.out]
    have lR5 : R5.data.toList = repL [120] (8 + K) := by rw [← HR5.out]
    have lX16 : X16.data.toList = [105, 110, 32] ++ NB.data.toList := by rw [← HX16.out]; simp
    have lX17 : X17.data.toList = X16.data.toList ++ [58, 32] := by rw [← HX17.out]; simp
    have lX19 : X19.data.toList = X17.data.toList ++ NB.data.toList := by rw [← HX19.out]; simp
    have lX21 : X21.data.toList = X19.data.toList ++ NB.data.toList := by rw [← HX21.out]; simp
    have lX22 : X22.data.toList = X21.data.toList ++ [32, 105, 110, 116, 59] := by rw [← HX22.out]; simp
    have lX24 : X24.data.toList = [106, 111, 98, 32] ++ NB.data.toList := by rw [← HX24.out]; simp
    have lX25 : X25.data.toList = X24.data.toList ++ [32, 114, 101, 116, 114, 121, 32] := by rw [← HX25.out]; simp
    have lX40 : X40.data.toList = [106, 111, 98, 32, 97, 32, 114, 101, 116, 114, 121, 32] ++ Y7.data.toList := by rw [← HX40.out]; simp
    have lX41 : X41.data.toList = X40.data.toList ++ [32, 61, 32, 100, 105, 115, 116, 105, 110, 99, 116, 32, 98, 59] := by rw [← HX41.out]; simp
    have lX46 : X46.data.toList = [106, 111, 98, 32, 97, 32, 61, 32, 102, 105, 108, 116, 101, 114, 32, 98, 32, 119, 104, 101, 114, 101, 32, 99, 32, 60, 32] ++ Y9.data.toList := by rw [← HX46.out]; simp
    have lX47 : X47.data.toList = X46.data.toList ++ [59] := by rw [← HX47.out]; simp
    have lX54 : X54.data.toList = [106, 111, 98, 32, 97, 32, 61, 32, 102, 105, 108, 116, 101, 114, 32, 98, 32, 119, 104, 101, 114, 101, 32, 99, 32, 61, 32, 39] ++ NB.data.toList := by rw [← HX54.out]; simp
    have lX55 : X55.data.toList = X54.data.toList ++ [39, 59] := by rw [← HX55.out]; simp
    have lX4 : X4.data.toList = R1.data.toList ++ [120] := by rw [← HX4.out]; simp
    have lX13 : X13.data.toList = [106, 111, 98, 32, 97, 32, 61, 32, 112, 114, 111, 106, 101, 99, 116, 32, 98, 32, 98, 121, 32, 99] ++ R3.data.toList := by rw [← HX13.out]; simp
    have lX14 : X14.data.toList = X13.data.toList ++ [59] := by rw [← HX14.out]; simp
    have lX29 : X29.data.toList = X25.data.toList ++ R4.data.toList := by rw [← HX29.out]; simp
    have lX30 : X30.data.toList = X29.data.toList ++ [32, 61, 32, 100, 105, 115, 116, 105, 110, 99, 116, 32] := by rw [← HX30.out]; simp
    have lX32 : X32.data.toList = X30.data.toList ++ NB.data.toList := by rw [← HX32.out]; simp
    have lX34 : X34.data.toList = X32.data.toList ++ NB.data.toList := by rw [← HX34.out]; simp
    have lX35 : X35.data.toList = X34.data.toList ++ [59] := by rw [← HX35.out]; simp
    have lX51 : X51.data.toList = [106, 111, 98, 32, 97, 32, 61, 32, 102, 105, 108, 116, 101, 114, 32, 98, 32, 119, 104, 101, 114, 101, 32, 99, 32, 61, 32, 39] ++ R5.data.toList := by rw [← HX51.out]; simp
    have lX52 : X52.data.toList = X51.data.toList ++ [39, 59] := by rw [← HX52.out]; simp
    have e := HX1.out
    have q0 := text_ok R0 (n := 400) (by omega) (agree_in (by rw [lR0]; exact not_rep (by decide)))
    have q1 := text_ok X4 (n := 401) (by omega) (agree_job (by rw [lX4, lR1]; exact not_app (not_rep (by decide)) (by decide)) (Or.inl (by rw [lX4, lR1]; exact not_app (not_rep (by decide)) (by decide))))
    have q2 := text_ok R2 (n := 400) (by omega) (agree_out (by rw [lR2]; exact not_rep (by decide)) (by rw [lR2]; exact not_rep (by decide)))
    have q3 := text_ok X14 (n := 623) (by omega) (agree_job (by rw [lX14, lX13, lR3]; exact not_app (not_app (by decide) (not_rep (by decide))) (by decide)) (Or.inr (by rw [lX14, lX13, lR3]; exact not_app (not_app (by decide) (not_rep (by decide))) (by decide))))
    have q4 := text_ok X22 (n := 70) (by omega) (agree_short (short_of X22 sX22 (by omega)))
    have q5 := text_ok X35 (n := 88) (by omega) (agree_short (short_of X35 sX35 (by omega)))
    have q6 := text_ok X41 (n := 46) (by omega) (agree_short (short_of X41 sX41 (by omega)))
    have q7 := text_ok X47 (n := 48) (by omega) (agree_short (short_of X47 sX47 (by omega)))
    have q8 := text_ok X52 (n := 60) (by omega) (agree_short (short_of X52 sX52 (by omega)))
    have q9 := text_ok X55 (n := 50) (by omega) (agree_short (short_of X55 sX55 (by omega)))
    intro i hi
    match i, hi with
    | 0, _ => exact ⟨R0.data.toList, by rw [show ba R0.data.toList = R0 from rfl]; exact e.cell 0 rfl, q0⟩
    | 1, _ => exact ⟨X4.data.toList, by rw [show ba X4.data.toList = X4 from rfl]; exact e.cell 1 rfl, q1⟩
    | 2, _ => exact ⟨R2.data.toList, by rw [show ba R2.data.toList = R2 from rfl]; exact e.cell 2 rfl, q2⟩
    | 3, _ => exact ⟨X14.data.toList, by rw [show ba X14.data.toList = X14 from rfl]; exact e.cell 3 rfl, q3⟩
    | 4, _ => exact ⟨X22.data.toList, by rw [show ba X22.data.toList = X22 from rfl]; exact e.cell 4 rfl, q4⟩
    | 5, _ => exact ⟨X35.data.toList, by rw [show ba X35.data.toList = X35 from rfl]; exact e.cell 5 rfl, q5⟩
    | 6, _ => exact ⟨X41.data.toList, by rw [show ba X41.data.toList = X41 from rfl]; exact e.cell 6 rfl, q6⟩
    | 7, _ => exact ⟨X47.data.toList, by rw [show ba X47.data.toList = X47 from rfl]; exact e.cell 7 rfl, q7⟩
    | 8, _ => exact ⟨X52.data.toList, by rw [show ba X52.data.toList = X52 from rfl]; exact e.cell 8 rfl, q8⟩
    | 9, _ => exact ⟨X55.data.toList, by rw [show ba X55.data.toList = X55 from rfl]; exact e.cell 9 rfl, q9⟩)
  clear HX1 HR0 HR1 HR2 HR3 HR4 HR5 HX16 HX17 HX19 HX21 HX22 HX24 HX25 HX40 HX41 HX46 HX47 HX54 HX55 HX4 HX13 HX14 HX29 HX30 HX32 HX34 HX35 HX51 HX52 sR0 sR1 sR2 sR3 sR4 sR5 sY7 sY9 sX16 sX17 sX19 sX21 sX22 sX24 sX25 sX40 sX41 sX46 sX47 sX54 sX55 sX4 sX13 sX14 sX29 sX30 sX32 sX34 sX35 sX51 sX52
  go_wp2_with fail
  go_loopw [9] (fun ix wr => ∃ i : Nat, i ≤ 10 ∧ ix = .int .i64 (i : Nat) ∧ Aside (Below W1.heap.size W1 wr)) (fun ix _ => 10 - (intOf ix).toNat)
  case atStart => exact ⟨0, Nat.zero_le _, rfl, Below.refl _ _⟩
  case round =>
    obtain ⟨i, hi, rfl, HW⟩ := hrel
    by_cases hi10 : i < 10
    · obtain ⟨l, hcl, hll, hag⟩ := HTX.out i hi10
      have hlt1 : w.heap.size < W1.heap.size := World.block_lt_of_cell? W1 ⟨w.heap.size, i, none⟩ hcl
      have hcr := (HW.out.cell (p := ⟨w.heap.size, i, none⟩) hlt1).trans hcl
      have hltr : w.heap.size < wr.heap.size := Nat.lt_of_lt_of_le hlt1 HW.out.size
      have hiI : (i : Int) < 10 := by omega
      have hi0 : (0 : Int) ≤ (i : Int) := by omega
      have HBR := Hid.mk (HB1.out.trans (HW.out.mono HB1.out.size))
      have HP := Hid.mk (fun V (hV : REnv V) => parser_any l V (by omega) hV)
      have HQ := Hid.mk (fun V (hV : FEnv V) => parse_any l V (by omega) hV)
      have HAG := Hid.mk hag
      have HOK : Hid (∀ f, parseF l = .ok f → FlwOK f) := Hid.mk (fun f h => parse_ok (by omega) h)
      clear hcl hag hlt1
      cases hr : refF l with
      | error er =>
        as_aux_lemma =>
          have HRF := Hid.mk hr
          clear hr
          go_wp2_with (go_at_call 5; fail)
          refine (HP.out wr (HE.out.below HBR.out)).mono ?_
          rintro e w2 ⟨hres, hb2⟩
          obtain rfl : e = .returned (.tuple #[.agg #[.slice none 0 0, .slice none 0 0, .slice none 0 0], .agg #[.int .i64 er.1, .int .i64 (er.2 : Nat)]]) := by
            rcases hres with ⟨f, vi, vj, vo, h, -⟩ | ⟨er', h, he⟩
            · rw [HRF.out] at h; cases h
            · rw [HRF.out] at h; cases h; exact he
          clear hres
          replace HBR := Hid.mk (HBR.out.trans (hb2.mono HBR.out.size))
          replace HW := Hid.mk (bel_then HW.out hb2)
          have hcr := (hb2.cell (p := ⟨w.heap.size, i, none⟩) hltr).trans hcr
          have hltr := Nat.lt_of_lt_of_le hltr hb2.size
          clear hb2
          replace HBR := Hid.mk (bel_box (bel_box HBR.out (.cells #[.slice none 0 0, .slice none 0 0, .slice none 0 0] 31)) (.cells #[.int .i64 er.1, .int .i64 (er.2 : Nat)] 34))
          replace HW := Hid.mk (bel_box (bel_box HW.out (.cells #[.slice none 0 0, .slice none 0 0, .slice none 0 0] 31)) (.cells #[.int .i64 er.1, .int .i64 (er.2 : Nat)] 34))
          have XF := Hid.mk ((Box.new w2 [.slice none 0 0, .slice none 0 0, .slice none 0 0] 31 _ rfl).below (below_box _ (.cells #[.int .i64 er.1, .int .i64 (er.2 : Nat)] 34)))
          have XE := Hid.mk (Box.new (w2.alloc (.cells #[.slice none 0 0, .slice none 0 0, .slice none 0 0] 31)) [.int .i64 er.1, .int .i64 (er.2 : Nat)] 34 (w2.heap.size + 1) (World.size_alloc _ _).symm)
          go_wp2_with (go_at_call 6; fail)
          refine (HQ.out _ (HE.out.below HBR.out).fl).mono ?_
          rintro e w4 ⟨hres, hb4⟩
          obtain ⟨b, rfl, t0, t1, tl⟩ : ∃ b, e = .returned (.tuple #[.agg #[.slice none 0 0, .slice none 0 0, .slice none 0 0], .iface 70 (.pointer (some ⟨b, 0, none⟩))]) ∧ w4.cell? ⟨b, 0, none⟩ = some (.int .i64 er.1) ∧ w4.cell? ⟨b, 1, none⟩ = some (.int .i64 (er.2 : Nat)) ∧ b < w4.heap.size := by
            rcases hres with ⟨f, vi, vj, vo, h, -⟩ | ⟨er', b, h, he, t0, t1, -, tl⟩
            · rw [HAG.out, HRF.out] at h; cases h
            · rw [HAG.out, HRF.out] at h; cases h; exact ⟨b, he, t0, t1, tl⟩
          clear hres
          replace HBR := Hid.mk (bel_box (HBR.out.trans (hb4.mono HBR.out.size)) (.cells #[.slice none 0 0, .slice none 0 0, .slice none 0 0] 31))
          replace HW := Hid.mk (bel_box (bel_then HW.out hb4) (.cells #[.slice none 0 0, .slice none 0 0, .slice none 0 0] 31))
          replace XF := Hid.mk ((XF.out.below hb4).below (below_box _ (.cells #[.slice none 0 0, .slice none 0 0, .slice none 0 0] 31)))
          replace XE := Hid.mk ((XE.out.below hb4).below (below_box _ (.cells #[.slice none 0 0, .slice none 0 0, .slice none 0 0] 31)))
          have XG := Hid.mk (Box.new w4 [.slice none 0 0, .slice none 0 0, .slice none 0 0] 31 _ rfl)
          have hbx := below_box w4 (.cells #[.slice none 0 0, .slice none 0 0, .slice none 0 0] 31)
          have T0 := Hid.mk (And.intro ((hbx.cell (p := ⟨b, 0, none⟩) tl).trans t0) ((hbx.cell (p := ⟨b, 1, none⟩) tl).trans t1))
          clear hb4 t0 t1 tl hbx hcr hltr
          have xe0 := XE.out.cell 0 rfl
          have xe1 := XE.out.cell 1 rfl
          have xel := XE.out.lt
          go_wp2_with (go_at_call 7; fail)
          clear xe0 xe1 xel
          refine (is_at er.1 er.2 b _ T0.out.1 T0.out.2 (HT.out.below HBR.out)).mono ?_
          rintro e w6 ⟨rfl, hb6⟩
          replace HW := Hid.mk (bel_then HW.out hb6)
          replace XF := Hid.mk (XF.out.below hb6)
          replace XG := Hid.mk (XG.out.below hb6)
          clear hb6 T0
          have xf0 := XF.out.cell 0 rfl
          have xf1 := XF.out.cell 1 rfl
          have xf2 := XF.out.cell 2 rfl
          have xfl := XF.out.lt
          have xg0 := XG.out.cell 0 rfl
          have xg1 := XG.out.cell 1 rfl
          have xg2 := XG.out.cell 2 rfl
          have xgl := XG.out.lt
          go_wp2_with (go_at_call 8; fail)
          clear xf0 xf1 xf2 xfl xg0 xg1 xg2 xgl
          refine (sameFlow_any ⟨[], [], []⟩ _ _ _ _ _ _ _ (rd_nil _) (rd_nil _) ok_nil).mono ?_
          rintro e w7 ⟨rfl, hb7⟩
          replace HW := Hid.mk (bel_then HW.out hb7)
          clear hb7
          go_wp2_with fail
          go_roundw
          case rel => exact ⟨i + 1, hi10, by go_num, HW.out⟩
          case measure => simp [intOf]; omega
      | ok f =>
        as_aux_lemma =>
          have HRF := Hid.mk hr
          have hok := HOK.out f (HAG.out.trans hr)
          have HFO := Hid.mk hok
          clear hr hok
          go_wp2_with (go_at_call 5; fail)
          refine (HP.out wr (HE.out.below HBR.out)).mono ?_
          rintro e w2 ⟨hres, hb2⟩
          obtain ⟨vi, vj, vo, rfl, hfl⟩ : ∃ vi vj vo, e = .returned (.tuple #[.agg #[vi, vj, vo], .agg #[.int .i64 0, .int .i64 (-1)]]) ∧ FlowRd w2 f vi vj vo := by
            rcases hres with ⟨f', vi, vj, vo, h, he, hF⟩ | ⟨er', h, he⟩
            · rw [HRF.out] at h; cases h; exact ⟨vi, vj, vo, he, FlowRd.of hF⟩
            · rw [HRF.out] at h; cases h
          clear hres
          obtain ⟨a1, c1, rfl, -⟩ := hfl.ins.sl
          obtain ⟨a2, c2, rfl, -⟩ := hfl.jobs.sl
          obtain ⟨a3, c3, rfl, -⟩ := hfl.outs.sl
          have FR := Hid.mk hfl
          clear hfl
          replace HBR := Hid.mk (HBR.out.trans (hb2.mono HBR.out.size))
          replace HW := Hid.mk (bel_then HW.out hb2)
          have hcr := (hb2.cell (p := ⟨w.heap.size, i, none⟩) hltr).trans hcr
          have hltr := Nat.lt_of_lt_of_le hltr hb2.size
          clear hb2
          generalize f.ins.length = N1 at *
          generalize f.jobs.length = N2 at *
          generalize f.outs.length = N3 at *
          have hbx := bel_box (below_box w2 (.cells #[.slice a1 N1 c1, .slice a2 N2 c2, .slice a3 N3 c3] 31)) (.cells #[.int .i64 0, .int .i64 (-1)] 34)
          replace HBR := Hid.mk (bel_then HBR.out hbx)
          replace HW := Hid.mk (bel_then HW.out hbx)
          replace FR := Hid.mk (FR.out.below hbx)
          have XF := Hid.mk ((Box.new w2 [.slice a1 N1 c1, .slice a2 N2 c2, .slice a3 N3 c3] 31 _ rfl).below (below_box _ (.cells #[.int .i64 0, .int .i64 (-1)] 34)))
          have XE := Hid.mk (Box.new (w2.alloc (.cells #[.slice a1 N1 c1, .slice a2 N2 c2, .slice a3 N3 c3] 31)) [.int .i64 0, .int .i64 (-1)] 34 (w2.heap.size + 1) (World.size_alloc _ _).symm)
          clear hbx
          go_wp2_with (go_at_call 6; fail)
          refine (HQ.out _ (HE.out.below HBR.out).fl).mono ?_
          rintro e w4 ⟨hres, hb4⟩
          obtain ⟨ui, uj, uo, rfl, hfl⟩ : ∃ vi vj vo, e = .returned (.tuple #[.agg #[vi, vj, vo], .nilIface]) ∧ FlowRd w4 f vi vj vo := by
            rcases hres with ⟨f', vi, vj, vo, h, he, hF⟩ | ⟨er', b, h, he, -⟩
            · rw [HAG.out, HRF.out] at h; cases h; exact ⟨vi, vj, vo, he, FlowRd.of hF⟩
            · rw [HAG.out, HRF.out] at h; cases h
          clear hres
          obtain ⟨b1, d1, rfl, -⟩ := hfl.ins.sl
          obtain ⟨b2, d2, rfl, -⟩ := hfl.jobs.sl
          obtain ⟨b3, d3, rfl, -⟩ := hfl.outs.sl
          generalize f.ins.length = M1 at *
          generalize f.jobs.length = M2 at *
          generalize f.outs.length = M3 at *
          have hbx := below_box w4 (.cells #[.slice b1 M1 d1, .slice b2 M2 d2, .slice b3 M3 d3] 31)
          replace HBR := Hid.mk (bel_then (HBR.out.trans (hb4.mono HBR.out.size)) hbx)
          replace HW := Hid.mk (bel_then (bel_then HW.out hb4) hbx)
          replace XF := Hid.mk ((XF.out.below hb4).below hbx)
          replace XE := Hid.mk ((XE.out.below hb4).below hbx)
          replace FR := Hid.mk ((FR.out.below hb4).below hbx)
          have FQ := Hid.mk (hfl.below hbx)
          have XG := Hid.mk (Box.new w4 [.slice b1 M1 d1, .slice b2 M2 d2, .slice b3 M3 d3] 31 _ rfl)
          clear hb4 hbx hcr hltr hfl
          have xe0 := XE.out.cell 0 rfl
          have xe1 := XE.out.cell 1 rfl
          have xel := XE.out.lt
          go_wp2_with (go_at_call 7; fail)
          clear xe0 xe1 xel
          refine (is_nil _).mono ?_
          rintro e w6 ⟨rfl, hb6⟩
          replace HW := Hid.mk (bel_then HW.out hb6)
          replace XF := Hid.mk (XF.out.below hb6)
          replace XG := Hid.mk (XG.out.below hb6)
          replace FR := Hid.mk (FR.out.below hb6)
          replace FQ := Hid.mk (FQ.out.below hb6)
          clear hb6
          have xf0 := XF.out.cell 0 rfl
          have xf1 := XF.out.cell 1 rfl
          have xf2 := XF.out.cell 2 rfl
          have xfl := XF.out.lt
          have xg0 := XG.out.cell 0 rfl
          have xg1 := XG.out.cell 1 rfl
          have xg2 := XG.out.cell 2 rfl
          have xgl := XG.out.lt
          go_wp2_with (go_at_call 8; fail)
          clear xf0 xf1 xf2 xfl xg0 xg1 xg2 xgl
          refine (sameFlow_any f _ _ _ _ _ _ _ FQ.out FR.out HFO.out).mono ?_
          rintro e w7 ⟨rfl, hb7⟩
          replace HW := Hid.mk (bel_then HW.out hb7)
          clear hb7
          go_wp2_with fail
          go_roundw
          case rel => exact ⟨i + 1, hi10, by go_num, HW.out⟩
          case measure => simp [intOf]; omega
    · obtain rfl : i = 10 := Nat.le_antisymm hi (Nat.le_of_not_lt hi10)
      go_wp2_with fail
      go_ret
      exact ⟨rfl, HB1.out.trans (HW.out.mono HB1.out.size)⟩
theorem limits_any (n m : Int) (NB : ByteArray) (w : World) (hE : REnv w) (hT : ErrT w) : Calls Tryz.prog 3 #[.int .i64 n, .int .i64 m, .string NB] w fun e w' => e = .returned (.bool true) ∧ Below w.heap.size w w' := by
  by_cases hs : NB.size ≤ 20
  · exact limits_small n m NB w hs hE hT
  · have hn0 : (20 : Int) < (NB.size : Int) := by omega
    go_enter Tryz.func3, Tryz.ntmps3
    go_wp2
    go_ret
    exact ⟨rfl, Below.refl _ _⟩
end Go.Proofs.YtedflhiflomoeaaGreatDoor

namespace Go.Proofs.YtedflhiflomoeaaGreatDoor
open Go.ChangeShapes Go.WideShapes Go.ChangeAt Go.RowKit

/-- The listed variables that hold plain data. -/
abbrev laidF : List (String × DataW Unit) := [("math/bits.deBruijn32tab", Rows.laid_math_bits_deBruijn32tab), ("math/bits.deBruijn64tab", Rows.laid_math_bits_deBruijn64tab), ("internal/strconv.uint64pow10", Rows.laid_internal_strconv_uint64pow10), ("unicode/utf8.acceptRanges", Rows.laid_unicode_utf8_acceptRanges), ("strconv.ErrRange", Rows.laid_strconv_ErrRange), ("strconv.ErrSyntax", Rows.laid_strconv_ErrSyntax), ("foreman/foremanref.Fine", Rows.laid_foreman_foremanref_Fine), ("foreman/flow.verbs", Rows.laid_foreman_flow_verbs), ("foreman/flow.kinds", Rows.laid_foreman_flow_kinds), ("foreman/flow.marks", Rows.laid_foreman_flow_marks), ("unicode/utf8.first", Rows.laid_unicode_utf8_first)]
theorem ownF : ownKnob Tryz.prog.godebug = none := by kernel_rfl
theorem starEF : "*" ++ "errors.errorString" = "*errors.errorString" := by decide
theorem rowEF (u : TypeId) (h : Tryz.prog.typeName? 3 u = some "*errors.errorString") : u = 180 :=
  typeName_ptr_named (nm := "errors.errorString") (by rw [starEF]; kernel_rfl) (by kernel_rfl) (by decide) u (by rw [starEF]; exact h)
theorem cellsStrF : Tryz.prog.cellsOf 9 = 1 := by kernel_rfl
/-- An array of texts, laid. -/
theorem strs_laid {W : World} {base : Nat} {sp : Nat → Bool} {held : Bool} {fuel n : Nat} {t : TypeId} {cs : List Value} {L : List By} {p : List MemPlace} {H : Type} {enc : TypeId × Value → H}
    (ht : Tryz.prog.underlying t = some (.array n 9)) (hct : Tryz.prog.cellsOf t = n)
    (h : DataW.trod enc Tryz.prog W base sp held fuel t cs = some (.agg (L.map fun b => .lit (.string b)), p)) : cs = L.map fun b => .string (ba b) := by
  obtain ⟨xs, m, rfl, hx, hlen, hn, hel⟩ := DataW.trod_array ht h
  simp only [Prod.mk.injEq, DataW.agg.injEq] at hx
  have hl : L.length = n := by
    have := congrArg List.length hx.1
    simp only [List.length_map] at this
    omega
  rw [hct] at hlen
  refine List.ext_getElem (by rw [List.length_map]; omega) fun i h1 h2 => ?_
  have hi : i < n := by omega
  have := hel i hi
  rw [cellsStrF, Nat.mul_one, List.getElem?_eq_getElem (by omega)] at this
  obtain ⟨s, a, b, -⟩ := DataW.trod_string Tryz.underlying9 this
  have e1 : cs[i] = .string s := by
    have q : ((cs.drop i).take 1)[0]? = some (.string s) := by rw [a]; rfl
    rw [List.getElem?_take, if_pos (by decide), List.getElem?_drop, Nat.add_zero, List.getElem?_eq_getElem h1] at q
    exact Option.some.inj q
  have e2 : (L.map fun b => (DataW.lit (.string b) : DataW H))[i]? = some (.lit (.string s.data.toList)) := by
    rw [hx.1, List.getElem?_map, List.getElem?_eq_getElem (by omega), b]
    rfl
  rw [List.getElem?_map, List.getElem?_eq_getElem (by omega)] at e2
  simp only [Option.map_some, Option.some.injEq, DataW.lit.injEq, Lit.string.injEq] at e2
  rw [e1, List.getElem_map, e2]
theorem cells_at {W : World} {g : Nat} {nm : String} {cs : Array Value} {L : List By} (hg : Tryz.prog.globalNamed nm = some g) (hv : W.var? Tryz.prog nm = some cs) (h : cs.toList = L.map fun b => .string (ba b)) (j : Nat) (hj : j < L.length) : W.cell? ⟨g, j, none⟩ = some (.string (ba L[j])) := by
  have := World.var?_cell hg hv j
  rw [this, ← Array.getElem?_toList, h, List.getElem?_map, List.getElem?_eq_getElem hj]
  rfl
theorem gMarks : Tryz.prog.globalNamed "foreman/flow.marks" = some 1 := by kernel_rfl
theorem tMarks : (Tryz.prog.globals[1]?).map (·.type) = some 111 := by kernel_rfl
theorem gVerbs : Tryz.prog.globalNamed "foreman/flow.verbs" = some 7 := by kernel_rfl
theorem tVerbs : (Tryz.prog.globals[7]?).map (·.type) = some 163 := by kernel_rfl
theorem gFKinds : Tryz.prog.globalNamed "foreman/flow.kinds" = some 3 := by kernel_rfl
theorem tFKinds : (Tryz.prog.globals[3]?).map (·.type) = some 128 := by kernel_rfl
theorem gPowF : Tryz.prog.globalNamed "internal/strconv.uint64pow10" = some 10 := by kernel_rfl
theorem tPowF : (Tryz.prog.globals[10]?).map (·.type) = some 199 := by kernel_rfl
theorem marks_lay : (Rows.laid_foreman_flow_marks : DataW Unit) = .agg (marksL.map fun b => .lit (.string b)) := rfl
theorem verbs_lay : (Rows.laid_foreman_flow_verbs : DataW Unit) = .agg (verbs0.map fun b => .lit (.string b)) := rfl
theorem kinds_lay : (Rows.laid_foreman_flow_kinds : DataW Unit) = .agg (kinds0.map fun b => .lit (.string b)) := rfl

set_option maxRecDepth 100000 in
theorem fenv_of {W : World} (hL : laidMet Tryz.prog laidF W) : FEnv W := by
  have hp : Lib.TabIs Tryz.prog W "internal/strconv.uint64pow10" .u64 Lib.pow10Tab := by
    obtain ⟨g, t, cs, fuel, p, hg, ht, hv, hd⟩ := Lib.laidMet.reads hL (n := "internal/strconv.uint64pow10") (d := Rows.laid_internal_strconv_uint64pow10) (.tail _ (.tail _ (.head _)))
    obtain rfl := Option.some.inj (gPowF.symm.trans hg)
    obtain rfl := Option.some.inj (tPowF.symm.trans ht)
    have e : (Rows.laid_internal_strconv_uint64pow10 : DataW Unit) = Lib.tabData .u64 Lib.pow10Tab := rfl
    rw [e] at hd
    have := Lib.cells_of_tab Tryz.underlying199 Tryz.underlying148 (by kernel_rfl) (by kernel_rfl) hd
    unfold Lib.TabIs
    rw [hv, ← this]
  have hv : ∀ (j : Nat) (h : j < verbs0.length), W.cell? ⟨7, j, none⟩ = some (.string (ba verbs0[j])) := by
    obtain ⟨g, t, cs, fuel, p, hg, ht, hv, hd⟩ := Lib.laidMet.reads hL (n := "foreman/flow.verbs") (d := Rows.laid_foreman_flow_verbs) (.tail _ (.tail _ (.tail _ (.tail _ (.tail _ (.tail _ (.tail _ (.head _))))))))
    obtain rfl := Option.some.inj (gVerbs.symm.trans hg)
    obtain rfl := Option.some.inj (tVerbs.symm.trans ht)
    rw [verbs_lay] at hd
    exact cells_at hg hv (strs_laid Tryz.underlying163 (by kernel_rfl) hd)
  have hk : ∀ (j : Nat) (h : j < kinds0.length), W.cell? ⟨3, j, none⟩ = some (.string (ba kinds0[j])) := by
    obtain ⟨g, t, cs, fuel, p, hg, ht, hv, hd⟩ := Lib.laidMet.reads hL (n := "foreman/flow.kinds") (d := Rows.laid_foreman_flow_kinds) (.tail _ (.tail _ (.tail _ (.tail _ (.tail _ (.tail _ (.tail _ (.tail _ (.head _)))))))))
    obtain rfl := Option.some.inj (gFKinds.symm.trans hg)
    obtain rfl := Option.some.inj (tFKinds.symm.trans ht)
    rw [kinds_lay] at hd
    exact cells_at hg hv (strs_laid Tryz.underlying128 (by kernel_rfl) hd)
  have hm : ∀ (j : Nat) (h : j < marksL.length), W.cell? ⟨1, j, none⟩ = some (.string (ba marksL[j])) := by
    obtain ⟨g, t, cs, fuel, p, hg, ht, hv, hd⟩ := Lib.laidMet.reads hL (n := "foreman/flow.marks") (d := Rows.laid_foreman_flow_marks) (.tail _ (.tail _ (.tail _ (.tail _ (.tail _ (.tail _ (.tail _ (.tail _ (.tail _ (.head _))))))))))
    obtain rfl := Option.some.inj (gMarks.symm.trans hg)
    obtain rfl := Option.some.inj (tMarks.symm.trans ht)
    rw [marks_lay] at hd
    exact cells_at hg hv (strs_laid Tryz.underlying111 (by kernel_rfl) hd)
  obtain ⟨aR, tR, hvR, hcR, -, -⟩ := laid_sentinel (g := 6) hL.tail.tail.tail.tail (by kernel_rfl) (by kernel_rfl) Tryz.underlying38 rowEF Tryz.underlying180 Tryz.underlying182 rfl rfl Tryz.underlying9 (by kernel_rfl) (by kernel_rfl)
  obtain ⟨aS, tS, hvS, hcS, -, -⟩ := laid_sentinel (g := 5) hL.tail.tail.tail.tail.tail (by kernel_rfl) (by kernel_rfl) Tryz.underlying38 rowEF Tryz.underlying180 Tryz.underlying182 rfl rfl Tryz.underlying9 (by kernel_rfl) (by kernel_rfl)
  refine ⟨?_, hm, hv, hk, ⟨_, _, hvS⟩, ⟨_, _, hvR⟩, hp⟩
  intro g hg
  have lt : ∀ (g i : Nat) (v : Value), W.cell? ⟨g, i, none⟩ = some v → g < W.heap.size := fun g i v h => World.block_lt_of_cell? W ⟨g, i, none⟩ h
  simp only [flowVars, List.mem_cons, List.not_mem_nil, or_false] at hg
  rcases hg with rfl | rfl | rfl | rfl | rfl | rfl
  · exact lt _ _ _ (hm 0 (by decide))
  · exact lt _ _ _ (hv 0 (by decide))
  · exact lt _ _ _ (hk 0 (by decide))
  · exact lt _ 0 _ ((World.var?_cell (by kernel_rfl) hvS 0).trans rfl)
  · exact lt _ 0 _ ((World.var?_cell (by kernel_rfl) hvR 0).trans rfl)
  · exact lt _ 0 _ ((World.var?_cell gPowF hp 0).trans rfl)
theorem et : Tryz.prog.globalNamed "errors.errorType" = some 4 := by kernel_rfl
theorem rt : (Tryz.prog.cutTypes.find? (·.1 == "internal/reflectlite.rtype")).map (·.2) = some 167 := by kernel_rfl
theorem tsize : Tryz.prog.types.size = 232 := by kernel_rfl
theorem oneRow : ((List.range 232).filter fun t => Tryz.prog.rowNamed t [101, 114, 114, 111, 114]) = [38] := by kernel_rfl
/-- What the listed variable gives. -/
theorem handle_of {l : List (String × DataW Unit)} {W : World} (hm0 : ("errors.errorType", Rows.laid_errors_errorType) ∈ l) (h : handlesMet Tryz.prog l W) : W.cell? ⟨4, 0, none⟩ = some (.iface 167 (.agg #[.pointer (some ⟨13, 38, none⟩)])) := by
  obtain ⟨name, u, ty, e1, e2, e3, e4, e5⟩ := h _ hm0
  have en : name = [101, 114, 114, 111, 114] := (Option.some.inj e1).symm
  subst en
  obtain rfl := Option.some.inj (rt.symm.trans e2)
  have hm : ty ∈ (List.range 232).filter fun t => Tryz.prog.rowNamed t [101, 114, 114, 111, 114] := List.mem_filter.2 ⟨List.mem_range.2 (by rw [← tsize]; exact e3), e4⟩
  rw [oneRow] at hm
  obtain rfl := List.mem_singleton.1 hm
  have hh : typeHandle Tryz.prog 38 = .pointer (some ⟨13, 38, none⟩) := by kernel_rfl
  rw [hh] at e5
  simpa using World.var?_cell et e5 0
theorem gFine : Tryz.prog.globalNamed "foreman/foremanref.Fine" = some 0 := by kernel_rfl
theorem tFine : (Tryz.prog.globals[0]?).map (·.type) = some 34 := by kernel_rfl
set_option maxRecDepth 100000 in
theorem fine_of {W : World} (hL : laidMet Tryz.prog laidF W) : W.cell? ⟨0, 0, none⟩ = some (.int .i64 0) ∧ W.cell? ⟨0, 1, none⟩ = some (.int .i64 (-1)) := by
  obtain ⟨g, t, cs, fuel, p, hg, ht, hv, hd⟩ := Lib.laidMet.reads hL (n := "foreman/foremanref.Fine") (d := Rows.laid_foreman_foremanref_Fine) (.tail _ (.tail _ (.tail _ (.tail _ (.tail _ (.tail _ (.head _)))))))
  obtain rfl := Option.some.inj (gFine.symm.trans hg)
  obtain rfl := Option.some.inj (tFine.symm.trans ht)
  obtain ⟨y0, y1, n, hx, hlen, k0, k1⟩ := trod_struct2 Tryz.underlying34 hd
  obtain ⟨m0, e0, q0, -⟩ := DataW.trod_int Tryz.underlying32 k0
  obtain ⟨m1, e1, q1, -⟩ := DataW.trod_int Tryz.underlying3 k1
  have h1 : Tryz.prog.cellsOf 32 = 1 := by kernel_rfl
  have h2 : Tryz.prog.cellsOf 3 = 1 := by kernel_rfl
  have hq := congrArg (·.1) hx
  rw [q0, q1] at hq
  have hq : (DataW.agg [.lit (.int .i64 0), .lit (.int .i64 (-1))] : DataW Unit) = .agg [.lit (.int .i64 m0), .lit (.int .i64 m1)] := hq
  simp only [DataW.agg.injEq, List.cons.injEq, DataW.lit.injEq, Lit.int.injEq, and_true, true_and] at hq
  obtain ⟨rfl, rfl⟩ := hq
  have c0 : cs[0]? = some (.int .i64 0) := by
    have e0 : (cs.toList.drop 0).take (Tryz.prog.cellsOf 32) = [.int .i64 0] := e0
    rw [h1] at e0
    have := congrArg (fun l : List Value => l[0]?) e0
    simpa [List.getElem?_take] using this
  have c1 : cs[1]? = some (.int .i64 (-1)) := by
    have e1 : (cs.toList.drop 1).take (Tryz.prog.cellsOf 3) = [.int .i64 (-1)] := e1
    rw [h2] at e1
    have := congrArg (fun l : List Value => l[0]?) e1
    simpa [List.getElem?_take, List.getElem?_drop] using this
  exact ⟨(World.var?_cell hg hv 0).trans c0, (World.var?_cell hg hv 1).trans c1⟩
theorem shaped_ml {W : World} (hsh : W.ShapedOpen Tryz.prog) : ∃ m, W.cell? ⟨2, 0, none⟩ = some (.int .i64 m) :=
  Go.Proofs.cell_of_shapedOpen_int (t := 3) (zero := #[.int .i64 0]) hsh (of_decide_eq_true (by kernel_rfl)) (by kernel_rfl) rfl (by kernel_rfl) (by kernel_rfl) Tryz.underlying3
theorem renv_of {W : World} (hL : laidMet Tryz.prog laidF W) (hsh : W.ShapedOpen Tryz.prog) : REnv W := by
  have hf := fenv_of hL
  obtain ⟨f0, f1⟩ := fine_of hL
  obtain ⟨m, hm⟩ := shaped_ml hsh
  refine ⟨?_, f0, f1, ⟨m, hm⟩, hf⟩
  intro g hg
  simp only [refVars, List.cons_append, List.nil_append, List.mem_cons] at hg
  rcases hg with rfl | rfl | hg
  · exact World.block_lt_of_cell? W ⟨0, 0, none⟩ f0
  · exact World.block_lt_of_cell? W ⟨2, 0, none⟩ hm
  · exact hf.size g hg
end Go.Proofs.YtedflhiflomoeaaGreatDoor

namespace Go.Proofs.YtedflhiflomoeaaGreatDoor
open Go.ChangeShapes Go.WideShapes Go.ChangeAt Go.RowKit Go.Joins Go.Deep

set_option maxRecDepth 100000 in
theorem contractLim (H : Type) (enc : TypeId × Value → H) (W : World) (base : Nat) (args : Array Value) (ds gs : List (DataW H)) (before : List MemPlace)
    (hval : ∀ (j : Nat) t v, Tryz.f3.params[j]? = some t → args[j]? = some v → Value.okWide Tryz.prog W .any base t v)
    (hW : DataW.Whole enc Tryz.prog Tryz.f3.params.toList Rows.flowLimitsSpec.vars false W args.toList ds gs before) (hL : laidMetH Tryz.prog Rows.flowLimitsRow.laid W) (hsh : W.ShapedOpen Tryz.prog) :
    Calls Tryz.prog 3 args W fun e W' => ∃ v, e = .returned v ∧ Rows.flowLimitsSpec.post enc Tryz.prog Tryz.f3 false true false false W args v W' := by
  have hW' := hW
  obtain ⟨p, q, hA0, hV, rfl, hfz, hnd⟩ := hW
  have hA : DataW.TrodAll enc Tryz.prog W 0 (fun _ => true) true Tryz.f3.params.toList args.toList ds p := hA0
  rw [Tryz.params3] at hA hval
  obtain ⟨v0, v1, v2, d0, d1, d2, p0, p1, p2, rfl, rfl, rfl, h0, h1, h2⟩ := trodAll_three hA
  obtain ⟨rfl, rfl⟩ := trodVars_none hV
  obtain ⟨n, rfl⟩ := okWide_int Tryz.underlying3 (hval 0 3 v0 rfl rfl)
  obtain ⟨m, rfl⟩ := okWide_int Tryz.underlying3 (hval 1 3 v1 rfl rfl)
  obtain ⟨s, rfl⟩ := okWide_string Tryz.underlying9 (hval 2 9 v2 rfl rfl)
  obtain ⟨n0, g0⟩ := h0
  obtain ⟨n1, g1⟩ := h1
  obtain ⟨n2, g2⟩ := h2
  have hL' : laidMet Tryz.prog laidF W ∧ handlesMet Tryz.prog [("errors.errorType", Rows.laid_errors_errorType)] W := hL
  clear hA0
  refine (limits_any n m s W (renv_of hL'.1 hsh) (handle_of (List.mem_singleton.2 rfl) hL'.2)).mono fun e W' ⟨he, hbl⟩ => ?_
  subst he
  refine ⟨_, rfl, _, _, _, [], p0 ++ (p1 ++ p2), [], hW', trodAll_mk1 (shut_bool Tryz.underlying4 _), ?_, rfl, hbl.frame _, fun h => by cases h⟩
  have lo : laidOutB Tryz.prog = true := by kernel_rfl
  exact trodAll_mk3 (Below.trod lo (by kernel_rfl) (of_decide_eq_true (by kernel_rfl)) ⟨n0, g0⟩ hbl (DataW.trod_lt n0 _ _ _ g0)) (Below.trod lo (by kernel_rfl) (of_decide_eq_true (by kernel_rfl)) ⟨n1, g1⟩ hbl (DataW.trod_lt n1 _ _ _ g1)) (Below.trod lo (by kernel_rfl) (of_decide_eq_true (by kernel_rfl)) ⟨n2, g2⟩ hbl (DataW.trod_lt n2 _ _ _ g2))

set_option maxRecDepth 100000 in
theorem liftedLim (os : Os) (started : os.Started) (H : Type) (enc : TypeId × Value → H) (F : Stop.Interp) :
    ReturnsInHanded {} Tryz.checked os 3 .any ((OpenSpec.ofChange Rows.flowLimitsSpec).preRow enc Tryz.prog Tryz.f3 Rows.flowLimitsRow.domain false Rows.flowLimitsRow.laid) (((OpenSpec.ofChange Rows.flowLimitsSpec).at F).post enc Tryz.prog Tryz.f3 false true false false) := by
  refine returnsInHanded_of_row (C := Tryz.checked) (s := OpenSpec.ofChange Rows.flowLimitsSpec) ownF started (by kernel_rfl) Tryz.func3
    (ChangeSpec.witness_shaped (enc := enc) (C := Tryz.checked) (os := os) (fn := Tryz.f3) (s := Rows.flowLimitsSpec) (conds := Rows.flowLimitsRow.domain) (apart := false) (X := fun w _ => laidMetH Tryz.prog Rows.flowLimitsRow.laid w) false
      { World.laidAll Tryz.prog os laidF with heap := (World.laidAll Tryz.prog os laidF).heap.modify 4 fun
        | .cells _ t frozen => .cells #[.iface 167 (.agg #[.pointer (some ⟨13, 38, none⟩)])] t frozen
        | o => o } #[.int .i64 0, .int .i64 0, .string ⟨#[]⟩] 8 (World.laidAll_os _ _ _)
      (World.shaped_of_ZipB (by kernel_rfl) (by kernel_rfl)) (by kernel_rfl) (by kernel_rfl) (by kernel_rfl)
      (laidMetH_of_parts (laidMet_of_run' 8 (by kernel_rfl) (by kernel_rfl)) (by kernel_rfl))) ?_
  intro W base args ds gs before hval hW _ _ _ hL hsh _
  exact contractLim H enc W base args ds gs before hval hW hL hsh

theorem saidLim : Rows.FlowLimitsSaid :=
  OpenClaim.holds_of_cond 3 Tryz.f3 rfl rfl rfl rfl rfl rfl rfl ⟨rfl, rfl, rfl, rfl, rfl⟩ rfl rfl rfl rfl rfl (by kernel_rfl) Tryz.func3 (by kernel_rfl)
    (of_decide_eq_true (by kernel_rfl)) (by unfold Func.isWrapper; first | (rw [if_pos (by decide +kernel)]; kernel_rfl) | (rw [if_neg (by decide +kernel)]; exact ⟨rfl, rfl⟩))
    (fun os started H enc _ F => by rw [OpenClaim.pre_eq_preRow]; exact liftedLim os started H enc F)

theorem plainLim (f : FuncId) (fn : Func) (hf : Tryz.pinned.checked.prog.funcNamed "foreman/foremanlaw.FlowLimits" = some f) (hfn : Tryz.pinned.checked.prog.funcs[f]? = some fn) :
    true = Tryz.pinned.checked.prog.looks [] ∧ ∀ (j : Nat) t, fn.params[j]? = some t → Tryz.pinned.checked.prog.wantsStandIn t = false := by
  obtain rfl : f = 3 := Option.some.inj ((show Tryz.prog.funcNamed "foreman/foremanlaw.FlowLimits" = some 3 by kernel_rfl).symm.trans hf) |>.symm
  obtain rfl : fn = Tryz.f3 := (Option.some.inj (Tryz.func3.symm.trans hfn)).symm
  refine ⟨by kernel_rfl, fun j t ht => ?_⟩
  rw [Tryz.params3] at ht
  have hm := Array.mem_of_getElem? ht
  simp only [List.mem_toArray, List.mem_cons, List.not_mem_nil, or_false] at hm
  rcases hm with rfl | rfl | rfl
  · exact (show Tryz.prog.wantsStandIn 3 = false by kernel_rfl)
  · exact (show Tryz.prog.wantsStandIn 3 = false by kernel_rfl)
  · exact (show Tryz.prog.wantsStandIn 9 = false by kernel_rfl)

/-- The card. -/
theorem cardLim : Rows.FlowLimitsCardSaid :=
  Claim7.holds_tied_plain_at .later [] _ _ _ _ saidLim (fun _ h => by cases h) (by kernel_rfl) (fun _ h => by cases h) flowLimits_row_tie rfl ⟨rfl, rfl⟩ (by kernel_rfl) rfl plainLim (by kernel_rfl)
end Go.Proofs.YtedflhiflomoeaaGreatDoor

