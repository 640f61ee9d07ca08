import Derived.Test.YtkdbidcofamkcaaGreatDoorOpens
set_option linter.unusedSimpArgs false
set_option linter.unusedVariables false
namespace Go.Proofs.YtkdbidcofamkcaaGreatDoor
open Go.ChangeShapes Go.WideShapes Go.ChangeAt Go.RowKit Go.Joins Go.Deep

set_option maxRecDepth 100000 in
/-- Rows' room. -/
theorem open_room {H : Type} {enc : TypeId × Value → H} {W : World} {n : Nat} {v : Value} {x : DataW H × List MemPlace} (h : DataW.trod enc Tryz.prog W 0 (fun _ => true) true n 23 [v] = some x) : ∀ a n c, v = .slice a n c → n ≤ c := by
  intro a n c e
  subst e
  rcases open_slice1 Tryz.underlying23 (by kernel_rfl) h with ⟨h0, -⟩ | ⟨a, len, cap, m, k, V, D, Pl, h0, -, hl, -, -, -, -⟩
  · simp only [List.cons.injEq, Value.slice.injEq, and_true] at h0
    omega
  · simp only [List.cons.injEq, Value.slice.injEq, and_true] at h0
    omega
set_option maxRecDepth 100000 in
/-- A table, opened, with its rows' room. -/
theorem open_tableR {H : Type} {enc : TypeId × Value → H} {W : World} {b0 : Nat} {v : Value} {d : DataW H} {p : List MemPlace} (hv : Value.okWide Tryz.prog W .any b0 25 v) (h : DataW.Trod enc Tryz.prog W 0 (fun _ => true) true 25 v d p) :
    ∃ vc vr cs rs, v = .agg #[vc, vr] ∧ ColsIs W vc cs ∧ RowsIs W vr rs ∧ ∀ a n c, vr = .slice a n c → n ≤ c := by
  obtain ⟨vc, vr, y0, y1, n, rfl, -, -, h0, h1⟩ := open_agg2 Tryz.underlying25 (by kernel_rfl) (by kernel_rfl) hv h
  obtain ⟨cs, hc⟩ := open_cols h0
  obtain ⟨rs, hr⟩ := open_rows h1
  exact ⟨vc, vr, cs, rs, rfl, hc, hr, open_room h1⟩
end Go.Proofs.YtkdbidcofamkcaaGreatDoor
