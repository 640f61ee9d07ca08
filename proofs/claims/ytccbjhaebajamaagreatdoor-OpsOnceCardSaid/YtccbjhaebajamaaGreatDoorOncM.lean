import Derived.Test.YtccbjhaebajamaaGreatDoorOncC
set_option linter.unusedSimpArgs false
set_option linter.unusedVariables false
namespace Go.Proofs.YtccbjhaebajamaaGreatDoor
open Go.RowKit

theorem fold_met : ∀ (l : List (List Vl)) (acc : List (List UInt8) × List (List Vl)), (∀ r ∈ l, textL r ∈ acc.1) → l.foldl distStep acc = acc
  | [], _, _ => rfl
  | r :: l, acc, h => by
    have h1 : distStep acc r = acc := by unfold distStep; rw [if_pos (by simpa using h r (by simp))]
    rw [List.foldl_cons, h1]
    exact fold_met l acc fun q hq => h q (by simp [hq])
theorem step_grows (acc : List (List UInt8) × List (List Vl)) (r : List Vl) : (∀ t ∈ acc.1, t ∈ (distStep acc r).1) ∧ textL r ∈ (distStep acc r).1 := by
  unfold distStep
  split
  · rename_i h; exact ⟨fun t ht => ht, by simpa using h⟩
  · exact ⟨fun t ht => by simp [ht], by simp⟩
theorem fold_grows : ∀ (l : List (List Vl)) (acc : List (List UInt8) × List (List Vl)), (∀ t ∈ acc.1, t ∈ (l.foldl distStep acc).1) ∧ ∀ r ∈ l, textL r ∈ (l.foldl distStep acc).1
  | [], acc => ⟨fun t h => h, fun r h => absurd h (by simp)⟩
  | r :: l, acc => by
    have hs := step_grows acc r
    have hf := fold_grows l (distStep acc r)
    rw [List.foldl_cons]
    refine ⟨fun t ht => hf.1 t (hs.1 t ht), fun q hq => ?_⟩
    rcases List.mem_cons.1 hq with rfl | hq
    · exact hf.1 _ hs.2
    · exact hf.2 q hq
/-- A table, and itself behind it. -/
theorem dist_twice (rs : List (List Vl)) : distF (rs ++ rs) = distF rs := by
  rw [distF, List.foldl_append]
  exact fold_met rs _ (fold_grows rs ([], [])).2
/-- What stays is once each. -/
theorem fold_once : ∀ (l : List (List Vl)) (acc : List (List UInt8) × List (List Vl)), acc.1 = acc.2.map textL → acc.1.Nodup → (l.foldl distStep acc).1 = (l.foldl distStep acc).2.map textL ∧ (l.foldl distStep acc).1.Nodup
  | [], _, h, hn => ⟨h, hn⟩
  | r :: l, acc, h, hn => by
    rw [List.foldl_cons]
    refine fold_once l _ ?_ ?_
    · unfold distStep
      split
      · exact h
      · simp [h]
    · unfold distStep
      split
      · exact hn
      · rename_i hc
        rw [List.nodup_append]
        refine ⟨hn, by simp, fun a ha b hb => ?_⟩
        simp at hb
        subst hb
        intro e
        subst e
        exact hc (by simpa using ha)
theorem fold_free : ∀ (l : List (List Vl)) (acc : List (List UInt8) × List (List Vl)), (acc.1 ++ l.map textL).Nodup → l.foldl distStep acc = (acc.1 ++ l.map textL, acc.2 ++ l)
  | [], acc, _ => by simp
  | r :: l, acc, h => by
    have hno : ¬ (acc.1.contains (textL r) = true) := by
      intro hc
      rw [List.nodup_append] at h
      exact h.2.2 (textL r) (by simpa using hc) (textL r) (by simp) rfl
    have h1 : distStep acc r = (acc.1 ++ [textL r], acc.2 ++ [r]) := by unfold distStep; rw [if_neg hno]
    rw [List.foldl_cons, h1, fold_free l _ (by simpa using h)]
    simp
/-- Distinct again it is the same. -/
theorem dist_again (rs : List (List Vl)) : (distF (distF rs).2).2 = (distF rs).2 := by
  obtain ⟨h1, h2⟩ := fold_once rs ([], []) rfl (by simp)
  have h3 : ((distF rs).2.map textL).Nodup := by rw [show (distF rs).2.map textL = (distF rs).1 from h1.symm]; exact h2
  have := fold_free (distF rs).2 ([], []) (by simpa using h3)
  rw [distF, this]
  simp
theorem fold_sub : ∀ (l : List (List Vl)) (acc : List (List UInt8) × List (List Vl)), ∀ r ∈ (l.foldl distStep acc).2, r ∈ acc.2 ∨ r ∈ l
  | [], _, r, h => Or.inl h
  | a :: l, acc, r, h => by
    rw [List.foldl_cons] at h
    rcases fold_sub l _ r h with h | h
    · unfold distStep at h
      split at h
      · exact Or.inl h
      · rcases List.mem_append.1 h with h | h
        · exact Or.inl h
        · simp at h; exact Or.inr (by simp [h])
    · exact Or.inr (by simp [h])
theorem dist_right {cs : List Cl} {rs : List (List Vl)} (hr : rightB cs rs = true) : rightB cs (distF rs).2 = true := by
  obtain ⟨h1, h2, h3⟩ := right_cols hr
  unfold rightB
  rw [h1]
  simp only [Bool.true_and, Bool.and_eq_true, decide_eq_true_eq, List.all_eq_true]
  refine ⟨Nat.le_trans (dist_len rs) h2, fun r hm => ?_⟩
  rcases fold_sub rs ([], []) r hm with h | h
  · simp at h
  · exact h3 r h
end Go.Proofs.YtccbjhaebajamaaGreatDoor
