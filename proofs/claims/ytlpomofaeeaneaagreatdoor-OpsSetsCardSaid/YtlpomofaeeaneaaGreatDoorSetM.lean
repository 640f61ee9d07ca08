import Derived.Test.YtlpomofaeeaneaaGreatDoorSetC
import Derived.Test.YtlpomofaeeaneaaGreatDoorOpsM
set_option linter.unusedSimpArgs false
set_option linter.unusedVariables false
namespace Go.Proofs.YtlpomofaeeaneaaGreatDoor
open Go.RowKit

theorem row_at {r : List Vl} {cs : List Cl} (h : rowOK r cs = true) (i : Nat) (hi : i < r.length) (hc : i < cs.length) : r[i].1 = cs[i].2 ∧ rvB r[i] = true := by
  induction r generalizing cs i with
  | nil => simp at hi
  | cons a r ih =>
    cases cs with
    | nil => simp at hc
    | cons c cs =>
      simp only [rowOK, Bool.and_eq_true, beq_iff_eq] at h
      cases i with
      | zero => exact ⟨by simpa using h.1, by simpa using h.2.1⟩
      | succ i =>
        simp only [List.getElem_cons_succ]
        exact ih h.2.2 i (by simpa using hi) (by simpa using hc)
theorem rv_num {x : Vl} (h : rvB x = true) : inNum x.2.1 := by
  have := right_small h
  exact ⟨this.2.1, this.2.2⟩
theorem rv_int {x : Vl} (h : rvB x = true) (hk : x.1 = 1) : x = (1, x.2.1, ⟨#[]⟩) := by
  obtain ⟨k, n, l⟩ := x
  have h' : rightValueB k n l.data.toList = true := h
  simp only at hk
  subst hk
  have hl : l.data.toList = [] := by
    unfold rightValueB at h'
    rw [if_pos rfl] at h'
    simp at h'
    first | exact h'.2.2 | exact h'.1 | (simp_all)
  obtain ⟨⟨d⟩⟩ := l
  simp only at hl
  subst hl
  rfl

/-- A number that a job's argument is in a row. -/
theorem arg_num {cs : List Cl} {rs : List (List Vl)} (h : rightB cs rs = true) {x : Ag} (hk : kindA cs x = 1) (r : List Vl) (hr : r ∈ rs) : inNum (valIn cs r x).2.1 := by
  obtain ⟨h1, h2, h3⟩ := right_cols h
  obtain ⟨l1, l2, l3, l4⟩ := right_len h
  have hrl := l4 r hr
  unfold kindA at hk
  unfold valIn
  split at hk
  · rename_i he
    rw [if_pos he]
    split at hk
    · rename_i hv; exact rv_num hv
    · cases hk
  · rename_i he
    rw [if_neg he]
    cases g : placeN cs x.1.data.toList with
    | none => rw [g] at hk; cases hk
    | some i =>
      have hil := place_some g
      simp only
      rw [List.getElem?_eq_getElem (show i < r.length by omega)]
      exact rv_num (row_at (h3 r hr) i (by omega) hil).2
theorem arg_ok {cs : List Cl} {x : Ag} (hk : kindA cs x = 1) : okArg cs x := by
  unfold kindA at hk
  unfold okArg
  split at hk
  · rename_i he; exact Or.inl he
  · cases g : placeN cs x.1.data.toList with
    | none => rw [g] at hk; cases hk
    | some i => exact Or.inr ⟨i, rfl⟩
theorem setErr_0 {cs : List Cl} {j : Jb} {nm : List UInt8} (h : setErr cs j nm = 0) : ∃ i, ∃ hi : placeN cs nm = some i, (cs[i]'(place_some hi)).2 = 1 ∧ kindA cs j.left = 1 ∧ kindA cs j.right = 1 := by
  unfold setErr at h
  obtain ⟨o, g⟩ : ∃ o, placeN cs nm = o := ⟨_, rfl⟩
  cases o with
  | none => rw [g] at h; cases h
  | some i =>
    rw [g] at h
    have hil := place_some g
    simp only [List.getElem?_eq_getElem hil, Option.getD_some] at h
    refine ⟨i, g, ?_⟩
    split at h
    · rename_i e; exact e
    · cases h
end Go.Proofs.YtlpomofaeeaneaaGreatDoor
