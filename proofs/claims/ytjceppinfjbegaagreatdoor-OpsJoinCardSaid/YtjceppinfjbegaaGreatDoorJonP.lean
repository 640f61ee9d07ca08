import Derived.Test.YtjceppinfjbegaaGreatDoorJonO
import Derived.Test.YtjceppinfjbegaaGreatDoorOpens
set_option linter.unusedSimpArgs false
set_option linter.unusedVariables false
namespace Go.Proofs.YtjceppinfjbegaaGreatDoor
open Go.ChangeShapes Go.WideShapes Go.ChangeAt Go.RowKit Go.Joins Go.Deep Go.Deep Go.Deep

set_option maxRecDepth 100000 in
theorem open_rowC {H : Type} {enc : TypeId × Value → H} {W : World} {n : Nat} {v : Value} {x : DataW H × List MemPlace} (h : DataW.trod enc Tryz.prog W 0 (fun _ => true) true n 62 [v] = some x) : ∃ vs, RowC W v vs := by
  rcases open_slice Tryz.underlying62 h with ⟨h0, -⟩ | ⟨a, len, cap, m, k, D, Pl, h0, -, hl, hm, hmm, -, hx⟩
  · exact ⟨[], none, 0, by simpa using h0, Nat.le_refl _, by simp, Or.inl rfl⟩
  · have hmm' : m = cap := by simpa using hmm
    have ce : Tryz.prog.cellsOf 24 = 3 := by kernel_rfl
    have cs1 : Tryz.prog.cellsOf 9 = 1 := by kernel_rfl
    have ci1 : Tryz.prog.cellsOf 3 = 1 := by kernel_rfl
    rw [ce] at hx
    have each : ∀ i, i < len → ∃ q : Int × Int × ByteArray, W.cell? (a.add (i * 3)) = some (.int .i64 q.1) ∧ W.cell? (a.add (i * 3 + 1)) = some (.int .i64 q.2.1) ∧ W.cell? (a.add (i * 3 + 2)) = some (.string q.2.2) ∧ q.2.2.size ≤ maxLen := by
      intro i hi
      obtain ⟨cs', h1, h2⟩ := hx i (by omega)
      obtain ⟨_, hlen, hcell⟩ := World.cells?_some h1
      obtain ⟨y0, y1, y2, n2, -, -, g0, g1, g2⟩ := trod_struct3 Tryz.underlying24 h2
      match cs', hlen, hcell, g0, g1, g2 with
      | [v0, v1, v2], _, hcell, g0, g1, g2 =>
        simp only [cs1, ci1] at g0 g1 g2
        obtain ⟨k0, e0, -, -⟩ := DataW.trod_int Tryz.underlying3 g0
        obtain ⟨k1, e1, -, -⟩ := DataW.trod_int Tryz.underlying3 g1
        obtain ⟨s2, e2, -, w2⟩ := DataW.trod_string Tryz.underlying9 g2
        simp at e0 e1 e2
        subst e0 e1 e2
        have d0 := hcell 0 (by omega)
        have d1 := hcell 1 (by omega)
        have d2 := hcell 2 (by omega)
        rw [add_add] at d0 d1 d2
        exact ⟨(k0, k1, s2), by simpa using d0, by simpa using d1, by simpa using d2, w2⟩
    obtain ⟨q, hq⟩ := choose_lt each
    refine ⟨(List.range len).map q, some a, cap, by simpa using h0, by simpa using hl, ?_, ?_⟩
    · intro y hy
      rw [List.mem_map] at hy
      obtain ⟨i, hi, rfl⟩ := hy
      exact (hq i (List.mem_range.1 hi)).2.2.2
    · by_cases hz : len = 0
      · exact Or.inl (by rw [hz]; rfl)
      · have c0 := (hq 0 (by omega)).1
        rw [Nat.zero_mul] at c0
        obtain ⟨b, o, rfl⟩ := plain_addr c0
        refine Or.inr ⟨b, o, rfl, World.block_lt_of_cell? W _ c0, fun j hj => ?_⟩
        rw [List.length_map, List.length_range] at hj
        obtain ⟨d0, d1, d2, -⟩ := hq j hj
        rw [add_plain] at d0 d1 d2
        simp only [List.getElem_map, List.getElem_range]
        exact ⟨d0, by rw [Nat.add_assoc, d1], by rw [Nat.add_assoc, d2]⟩

set_option maxRecDepth 100000 in
/-- Rows, opened. -/
theorem open_rowsC {H : Type} {enc : TypeId × Value → H} {W : World} {n : Nat} {v : Value} {x : DataW H × List MemPlace} (h : DataW.trod enc Tryz.prog W 0 (fun _ => true) true n 34 [v] = some x) : ∃ rs, RowsC W v rs := by
  rcases open_slice1 Tryz.underlying34 (by kernel_rfl) h with ⟨h0, -⟩ | ⟨a, len, cap, m, k, V, D, Pl, h0, -, hl, hm, hmm, -, hx⟩
  · exact ⟨[], none, 0, by simpa using h0, Or.inl rfl⟩
  · have hmm' : m = cap := by simpa using hmm
    obtain ⟨q, hq⟩ := choose_lt (n := len) (p := fun i r => RowC W (V i) r) (fun i hi => open_rowC (hx i (by omega)).2)
    refine ⟨(List.range len).map q, some a, cap, by simpa using h0, ?_⟩
    by_cases hz : len = 0
    · exact Or.inl (by rw [hz]; rfl)
    · have c0 := (hx 0 (by omega)).1
      obtain ⟨b, o, rfl⟩ := plain_addr c0
      refine Or.inr ⟨b, o, rfl, World.block_lt_of_cell? W _ c0, fun j hj => ?_⟩
      rw [List.length_map, List.length_range] at hj
      have d := (hx j (by omega)).1
      rw [add_plain] at d
      simp only [List.getElem_map, List.getElem_range]
      exact ⟨V j, d, hq j hj⟩

set_option maxRecDepth 100000 in
/-- A table, opened. -/
theorem open_tableC {H : Type} {enc : TypeId × Value → H} {W : World} {b0 : Nat} {v : Value} {d : DataW H} {p : List MemPlace} (hv : Value.okWide Tryz.prog W .any b0 36 v) (h : DataW.Trod enc Tryz.prog W 0 (fun _ => true) true 36 v d p) :
    ∃ vc vr cs rs, v = .agg #[vc, vr] ∧ ColsIs W vc cs ∧ RowsC W vr rs := by
  obtain ⟨vc, vr, y0, y1, n, rfl, -, -, h0, h1⟩ := open_agg2 Tryz.underlying36 (by kernel_rfl) (by kernel_rfl) hv h
  obtain ⟨cs, hc⟩ := open_cols h0
  obtain ⟨rs, hr⟩ := open_rowsC h1
  exact ⟨vc, vr, cs, rs, rfl, hc, hr⟩
end Go.Proofs.YtjceppinfjbegaaGreatDoor

