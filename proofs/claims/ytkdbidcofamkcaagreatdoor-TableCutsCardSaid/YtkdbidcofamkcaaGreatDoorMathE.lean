import Derived.Test.YtkdbidcofamkcaaGreatDoorMathD
set_option linter.unusedSimpArgs false
set_option linter.unusedVariables false
namespace Go.Proofs.YtkdbidcofamkcaaGreatDoor
open Go.RowKit

/-- Lines, each with its line feed. -/
def feeds (ls : List (List UInt8)) : List UInt8 := ls.flatMap (· ++ [10])
theorem feeds_cons (x : List UInt8) (ls : List (List UInt8)) : feeds (x :: ls) = x ++ 10 :: feeds ls := by simp [feeds]
/-- What is cut off lines is whole lines, and a piece that has no line feed. -/
theorem feeds_take : ∀ (ls : List (List UInt8)) (k : Nat), (∀ x ∈ ls, (10 : UInt8) ∉ x) → ∃ m y, m ≤ ls.length ∧ (feeds ls).take k = feeds (ls.take m) ++ y ∧ (10 : UInt8) ∉ y
  | [], k, _ => ⟨0, [], Nat.le_refl _, by simp [feeds], by simp⟩
  | x :: ls, k, h => by
    by_cases hk : k ≤ x.length
    · refine ⟨0, x.take k, Nat.zero_le _, ?_, fun hm => h x (by simp) (List.mem_of_mem_take hm)⟩
      rw [feeds_cons, List.take_append_of_le_length hk]
      simp [feeds]
    · obtain ⟨m, y, hm, e, hy⟩ := feeds_take ls (k - x.length - 1) (fun z hz => h z (by simp [hz]))
      refine ⟨m + 1, y, by simp; omega, ?_, hy⟩
      obtain ⟨j, rfl⟩ : ∃ j, k = x.length + (j + 1) := ⟨k - x.length - 1, by omega⟩
      rw [show x.length + (j + 1) - x.length - 1 = j by omega] at e
      rw [feeds_cons, List.take_length_add_append, List.take_succ_cons, e, List.take_succ_cons, feeds_cons]
      simp
theorem feeds_count : ∀ (ls : List (List UInt8)), (∀ x ∈ ls, (10 : UInt8) ∉ x) → (feeds ls).count 10 = ls.length
  | [], _ => by simp [feeds]
  | x :: ls, h => by
    have ih := feeds_count ls (fun z hz => h z (by simp [hz]))
    rw [feeds_cons, List.count_append, List.count_cons_self, ih, List.count_eq_zero_of_not_mem (h x (by simp))]
    simp
theorem suffix_no {a y : List UInt8} (hy : (10 : UInt8) ∉ y) (h : Lib.hasSuffix (a ++ y) [10] = true) : y = [] := by
  rcases List.eq_nil_or_concat y with e | ⟨z, c, rfl⟩
  · exact e
  · exfalso
    simp only [Lib.hasSuffix, List.isSuffixOf_iff_suffix] at h
    obtain ⟨t, ht⟩ := h
    have : (10 : UInt8) = c := by
      have h1 := congrArg List.getLast? ht
      simpa using h1
    exact hy (by simp [this])
theorem printL_feeds (cs : List Cl) (rs : List (List Vl)) : printL cs rs = feeds (Lib.join (cs.map fun c => (headB c).data.toList) [32] :: rs.map fun r => Lib.join (r.map fun v => valueL v.1 v.2.1 v.2.2.data.toList) [32]) := by
  rw [feeds_cons]
  unfold printL headL lineL feeds
  rw [List.flatMap_map]
  simp only [List.append_assoc, List.cons_append, List.nil_append]
  rfl
theorem lines_no {cs : List Cl} {rs : List (List Vl)} (h : rightB cs rs = true) : ∀ x ∈ (Lib.join (cs.map fun c => (headB c).data.toList) [32] :: rs.map fun r => Lib.join (r.map fun v => valueL v.1 v.2.1 v.2.2.data.toList) [32]), (10 : UInt8) ∉ x := by
  obtain ⟨hc, hl, hr⟩ := right_cols h
  intro x hx
  rcases List.mem_cons.1 hx with rfl | hx
  · exact head_no hc
  · rw [List.mem_map] at hx
    obtain ⟨r, hr', rfl⟩ := hx
    apply join_no
    intro y hy
    rw [List.mem_map] at hy
    obtain ⟨v, hv, rfl⟩ := hy
    have := tx_bytes (v := unvl v) (rowOK_each r cs (hr r hr') v hv)
    exact fun hm => this 10 hm rfl
theorem right_take {cs : List Cl} {rs : List (List Vl)} (h : rightB cs rs = true) (m : Nat) : rightB cs (rs.take m) = true := by
  obtain ⟨hc, hl, hr⟩ := right_cols h
  simp only [rightB, hc, Bool.true_and, Bool.and_eq_true, decide_eq_true_eq, List.all_eq_true, List.length_take]
  exact ⟨by omega, fun r hr' => hr r (List.mem_of_mem_take hr')⟩
/-- LINE BY LINE: what ends with a line feed is the table of its first rows. -/
theorem cut_whole {cs : List Cl} {rs : List (List Vl)} (h : rightB cs rs = true) (k : Nat) (h0 : ((printL cs rs).take k).count 10 ≠ 0) (hs : Lib.hasSuffix ((printL cs rs).take k) [10] = true) :
    ((printL cs rs).take k).count 10 - 1 ≤ rs.length ∧ (printL cs rs).take k = printL cs (rs.take (((printL cs rs).take k).count 10 - 1)) := by
  have hn := lines_no h
  rw [printL_feeds] at h0 hs ⊢
  obtain ⟨m, y, hm, e, hy⟩ := feeds_take _ k hn
  rw [e] at h0 hs ⊢
  obtain rfl := suffix_no hy hs
  rw [List.append_nil] at h0 ⊢
  have hcnt := feeds_count ((Lib.join (cs.map fun c => (headB c).data.toList) [32] :: rs.map fun r => Lib.join (r.map fun v => valueL v.1 v.2.1 v.2.2.data.toList) [32]).take m) (fun x hx => hn x (List.mem_of_mem_take hx))
  rw [hcnt, List.length_take] at h0 ⊢
  simp only [List.length_cons, List.length_map] at hm h0 ⊢
  obtain ⟨m, rfl⟩ : ∃ j, m = j + 1 := ⟨m - 1, by omega⟩
  rw [show min (m + 1) (rs.length + 1) - 1 = m by omega]
  refine ⟨by omega, ?_⟩
  rw [printL_feeds, List.take_succ_cons, List.map_take]
/-- What is cut off within a line is none. -/
theorem cut_none (l : List UInt8) (h : l.count 10 = 0 ∨ Lib.hasSuffix l [10] = false) : ∃ x, parseT l = .error x := by
  cases hp : parseT l with
  | error x => exact ⟨x, rfl⟩
  | ok ct =>
    exfalso
    obtain ⟨cs, rs⟩ := ct
    have hw := read_write hp
    have hs : ∃ z, l = z ++ [10] := by
      rw [← hw.2, printL]
      rcases List.eq_nil_or_concat (rs.map (·.map vl)) with e | ⟨q, r, e⟩
      · rw [e]; exact ⟨_, by simp [headL, lineL]; rfl⟩
      · rw [e]
        refine ⟨headL cs ++ q.flatMap rowL ++ Lib.join (r.map fun v => valueL v.1 v.2.1 v.2.2.data.toList) [32], ?_⟩
        simp [rowL, lineL]
    obtain ⟨z, rfl⟩ := hs
    rcases h with h | h
    · rw [List.count_append] at h; simp at h
    · have ht : Lib.hasSuffix (z ++ [10]) [10] = true := by
        simp only [Lib.hasSuffix, List.isSuffixOf_iff_suffix]
        exact ⟨z, rfl⟩
      rw [ht] at h
      cases h
end Go.Proofs.YtkdbidcofamkcaaGreatDoor
