import Derived.Test.YtipdkiafckapjaaGreatDoorOpens
import Derived.Test.YtipdkiafckapjaaGreatDoorOpsQ
set_option linter.unusedSimpArgs false
set_option linter.unusedVariables false
namespace Go.Proofs.YtipdkiafckapjaaGreatDoor
open Go.ChangeShapes Go.WideShapes Go.ChangeAt Go.RowKit Go.Joins Go.Deep

/-- A list of texts, opened. -/
theorem open_texts {H : Type} {enc : TypeId × Value → H} {W : World} {n : Nat} {v : Value} {x : DataW H × List MemPlace} (h : DataW.trod enc Tryz.prog W 0 (fun _ => true) true n 22 [v] = some x) : ∃ ss, StrsIs W v ss ∧ ss.length ≤ maxLen := by
  rcases open_strs Tryz.underlying22 Tryz.underlying9 (by kernel_rfl) h with ⟨h0, -⟩ | ⟨a, len, cap, m, Sx, h0, -, hl, hm, hmm, -, hx⟩
  · exact ⟨[], ⟨none, 0, by simpa using h0, by simp, Or.inl rfl⟩, Nat.zero_le _⟩
  · have hmm' : m = cap := by simpa using hmm
    refine ⟨(List.range len).map Sx, ⟨some a, cap, by simpa using h0, ?_, ?_⟩, by simp; omega⟩
    · intro y hy
      rw [List.mem_map] at hy
      obtain ⟨i, hi, rfl⟩ := hy
      exact (hx i (by have := List.mem_range.1 hi; omega)).2
    · by_cases hz : len = 0
      · exact Or.inl (by rw [hz]; rfl)
      · have c0 := (hx 0 (by omega)).1
        obtain ⟨b, o, rfl⟩ := plain_addr c0
        refine Or.inr ⟨b, o, rfl, World.block_lt_of_cell? W _ c0, fun j hj => ?_⟩
        rw [List.length_map, List.length_range] at hj
        have d0 := (hx j (by omega)).1
        rw [add_plain] at d0
        simp only [List.getElem_map, List.getElem_range]
        exact d0

theorem cellsS : Tryz.prog.cellsOf 9 = 1 := by kernel_rfl
theorem cellsI : Tryz.prog.cellsOf 3 = 1 := by kernel_rfl
theorem cellsT : Tryz.prog.cellsOf 22 = 1 := by kernel_rfl
theorem cellsV : Tryz.prog.cellsOf 24 = 3 := by kernel_rfl
theorem cellsA : Tryz.prog.cellsOf 26 = 4 := by kernel_rfl

set_option maxRecDepth 100000 in
/-- An argument of a job, opened. -/
theorem open_arg {H : Type} {enc : TypeId × Value → H} {W : World} {n : Nat} {a b c d : Value} {x : DataW H × List MemPlace} (h : DataW.trod enc Tryz.prog W 0 (fun _ => true) true n 26 [a, b, c, d] = some x) :
    ∃ q : Ag, a = .string q.1 ∧ b = .int .i64 q.2.1 ∧ c = .int .i64 q.2.2.1 ∧ d = .string q.2.2.2 ∧ q.1.size ≤ maxLen ∧ q.2.2.2.size ≤ maxLen := by
  obtain ⟨y0, y1, n1, -, -, g0, g1⟩ := trod_struct2 Tryz.underlying26 h
  simp only [cellsS, cellsV] at g0 g1
  obtain ⟨s, e0, -, w0⟩ := DataW.trod_string Tryz.underlying9 g0
  obtain ⟨z0, z1, z2, n2, -, -, k0, k1, k2⟩ := trod_struct3 Tryz.underlying24 g1
  simp only [cellsS, cellsI] at k0 k1 k2
  obtain ⟨i0, f0, -, -⟩ := DataW.trod_int Tryz.underlying3 k0
  obtain ⟨i1, f1, -, -⟩ := DataW.trod_int Tryz.underlying3 k1
  obtain ⟨s2, f2, -, w2⟩ := DataW.trod_string Tryz.underlying9 k2
  simp at e0 f0 f1 f2
  exact ⟨(s, i0, i1, s2), e0, f0, f1, f2, w0, w2⟩

theorem array15 {α : Type} {cs : Array α} (h : cs.size = 15) : ∃ c0 c1 c2 c3 c4 c5 c6 c7 c8 c9 c10 c11 c12 c13 c14, cs = #[c0, c1, c2, c3, c4, c5, c6, c7, c8, c9, c10, c11, c12, c13, c14] := by
  obtain ⟨l⟩ := cs
  match l, h with
  | [c0, c1, c2, c3, c4, c5, c6, c7, c8, c9, c10, c11, c12, c13, c14], _ => exact ⟨c0, c1, c2, c3, c4, c5, c6, c7, c8, c9, c10, c11, c12, c13, c14, rfl⟩

set_option maxRecDepth 100000 in
/-- A job, opened. -/
theorem open_job {H : Type} {enc : TypeId × Value → H} {W : World} {b0 : Nat} {v : Value} {d : DataW H} {p : List MemPlace} (hv : Value.okWide Tryz.prog W .any b0 28 v) (h : DataW.Trod enc Tryz.prog W 0 (fun _ => true) true 28 v d p) :
    ∃ (j : Jb) (ss : List ByteArray), v = .agg j.cells ∧ StrsIs W j.cols ss ∧ ss.length ≤ maxLen ∧ j.sized := by
  obtain ⟨cs, rfl, hsz⟩ := okWide_struct Tryz.underlying28 hv
  obtain ⟨c0, c1, c2, c3, c4, c5, c6, c7, c8, c9, c10, c11, c12, c13, c14, rfl⟩ := array15 (hsz.trans (by kernel_rfl))
  obtain ⟨fuel, hf⟩ := h
  obtain ⟨xs, n, -, -, -, hlen, hfs⟩ := DataW.trod_struct Tryz.underlying28 hf
  match xs, hlen, hfs with
  | [x0, x1, x2, x3, x4, x5, x6, x7, x8], _, hfs =>
    have h0 := hfs 0 _ rfl
    have h1 := hfs 1 _ rfl
    have h4 := hfs 4 _ rfl
    have h5 := hfs 5 _ rfl
    have h6 := hfs 6 _ rfl
    have h7 := hfs 7 _ rfl
    have h8 := hfs 8 _ rfl
    simp only [cellsS, cellsI, cellsT, cellsA, Value.cells] at h0 h1 h4 h5 h6 h7 h8
    obtain ⟨i0, e0, -, -⟩ := DataW.trod_int Tryz.underlying3 (show DataW.trod enc Tryz.prog W 0 _ true n 3 [c0] = some x0 from h0)
    obtain ⟨i1, e1, -, -⟩ := DataW.trod_int Tryz.underlying3 (show DataW.trod enc Tryz.prog W 0 _ true n 3 [c1] = some x1 from h1)
    obtain ⟨ss, hss, hsl⟩ := open_texts (show DataW.trod enc Tryz.prog W 0 _ true n 22 [c4] = some x4 from h4)
    obtain ⟨s5, e5, -, w5⟩ := DataW.trod_string Tryz.underlying9 (show DataW.trod enc Tryz.prog W 0 _ true n 9 [c5] = some x5 from h5)
    obtain ⟨q6, a6, a7, a8, a9, v6, v9⟩ := open_arg (show DataW.trod enc Tryz.prog W 0 _ true n 26 [c6, c7, c8, c9] = some x6 from h6)
    obtain ⟨q7, b6, b7, b8, b9, u6, u9⟩ := open_arg (show DataW.trod enc Tryz.prog W 0 _ true n 26 [c10, c11, c12, c13] = some x7 from h7)
    obtain ⟨i8, e8, -, -⟩ := DataW.trod_int Tryz.underlying3 (show DataW.trod enc Tryz.prog W 0 _ true n 3 [c14] = some x8 from h8)
    simp at e0 e1 e5 e8
    subst e0 e1 e5 e8 a6 a7 a8 a9 b6 b7 b8 b9
    exact ⟨⟨i0, i1, c2, c3, c4, s5, q6, q7, i8⟩, ss, rfl, hss, hsl, w5, v6, u6, v9, u9⟩
end Go.Proofs.YtipdkiafckapjaaGreatDoor
