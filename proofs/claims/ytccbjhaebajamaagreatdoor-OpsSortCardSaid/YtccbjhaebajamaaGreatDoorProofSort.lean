/-
  A table that is sorted has the same rows, as often, none ahead of one that must be ahead; sorted again it is the same; and a part that is left out of it, in order, is that part, sorted: foremankeep.OpsSort returns true at every input, whatever memory and schedule, and its arguments read as they did. Its conditions: the listed package-level variables start as the program's text lays them (the tied card); nothing is narrowed besides.
-/
import Derived.Test.YtccbjhaebajamaaGreatDoorWalkF
import Derived.Deep.SlicePairs
import Derived.Deep.Strs
import Derived.Lib.SmallJoins
import Derived.Test.YtccbjhaebajamaaGreatDoorOpsQ
import Derived.Test.YtccbjhaebajamaaGreatDoorRows
import Derived.Test.YtccbjhaebajamaaGreatDoorWalkH
import Derived.ProofKit
import Derived.OpenShut
import Derived.Stop.LaidErr
import Derived.Lib.LaidTab
import Derived.Lib.LaidU8
import Derived.Lay
import Derived.Deep.DeepHandedRow
import Derived.Test.YtccbjhaebajamaaGreatDoorCards
import Derived.Test.YtccbjhaebajamaaGreatDoorTie
import Derived.Carry
import Derived.Test.YtccbjhaebajamaaGreatDoorSrsM
import Derived.Test.YtccbjhaebajamaaGreatDoorSrsY
import Derived.Test.YtccbjhaebajamaaGreatDoorSrsZ
set_option linter.unusedSimpArgs false
set_option linter.unusedVariables false
namespace Go.Proofs.YtccbjhaebajamaaGreatDoor
open Go.ChangeShapes Go.WideShapes Go.ChangeAt Go.RowKit Go.Joins Go.Deep

theorem plain_addr {W : World} {a : Addr} {v : Value} (h : W.cell? (a.add 0) = some v) : ∃ b o, a = ⟨b, o, none⟩ := by
  obtain ⟨b, o, s⟩ := a
  have hs : s = none := by simpa [Addr.add] using World.cell?_spot h
  exact ⟨b, o, by rw [hs]⟩

set_option maxRecDepth 100000 in
/-- Columns, opened. -/
theorem open_cols {H : Type} {enc : TypeId × Value → H} {W : World} {n : Nat} {v : Value} {x : DataW H × List MemPlace} (h : DataW.trod enc Tryz.prog W 0 (fun _ => true) true n 22 [v] = some x) : ∃ cs, ColsIs W v cs := by
  rcases open_slice_pairs Tryz.underlying22 Tryz.underlying38 (by kernel_rfl) rfl rfl (by kernel_rfl) (by kernel_rfl) h with ⟨h0, -⟩ | ⟨a, len, cap, m, k, V0, V1, D0, D1, P0, P1, h0, -, hl, hm, hmm, -, hx⟩
  · exact ⟨[], none, 0, by simpa using h0, Nat.le_refl _, by simp, Or.inl rfl⟩
  · have hmm' : m = cap := by simpa using hmm
    have each : ∀ i, i < len → ∃ q : ByteArray × Int, V0 i = .string q.1 ∧ V1 i = .int .i64 q.2 ∧ q.1.size ≤ maxLen := by
      intro i hi
      obtain ⟨-, -, g0, g1⟩ := hx i (by omega)
      obtain ⟨s, e0, -, w0⟩ := DataW.trod_string Tryz.underlying9 g0
      obtain ⟨k, e1, -, w1⟩ := DataW.trod_int Tryz.underlying3 g1
      exact ⟨(s, k), by simpa using e0, by simpa using e1, w0⟩
    obtain ⟨q, hq⟩ := choose_lt each
    refine ⟨(List.range len).map q, some a, cap, by simpa using h0, by simpa using hl, ?_, ?_⟩
    · intro y hy
      rw [List.mem_map] at hy
      obtain ⟨i, hi, rfl⟩ := hy
      exact (hq i (List.mem_range.1 hi)).2.2
    · by_cases hz : len = 0
      · exact Or.inl (by rw [hz]; rfl)
      · have c0 := (hx 0 (by omega)).1
        rw [Nat.zero_mul] at c0
        obtain ⟨b, o, rfl⟩ := plain_addr c0
        refine Or.inr ⟨b, o, rfl, World.block_lt_of_cell? W _ c0, fun j hj => ?_⟩
        rw [List.length_map, List.length_range] at hj
        obtain ⟨d0, d1, -, -⟩ := hx j (by omega)
        rw [add_plain] at d0 d1
        simp only [List.getElem_map, List.getElem_range]
        exact ⟨by rw [d0, (hq j hj).1], by rw [Nat.add_assoc, d1, (hq j hj).2.1]⟩

set_option maxRecDepth 100000 in
/-- A row, opened. -/
theorem open_row {H : Type} {enc : TypeId × Value → H} {W : World} {n : Nat} {v : Value} {x : DataW H × List MemPlace} (h : DataW.trod enc Tryz.prog W 0 (fun _ => true) true n 48 [v] = some x) : ∃ vs, RowIs W v vs := by
  rcases open_slice Tryz.underlying48 h with ⟨h0, -⟩ | ⟨a, len, cap, m, k, D, Pl, h0, -, hl, hm, hmm, -, hx⟩
  · exact ⟨[], none, 0, by simpa using h0, by simp, Or.inl rfl⟩
  · have hmm' : m = cap := by simpa using hmm
    have ce : Tryz.prog.cellsOf 32 = 3 := by kernel_rfl
    have cs1 : Tryz.prog.cellsOf 9 = 1 := by kernel_rfl
    have ci1 : Tryz.prog.cellsOf 3 = 1 := by kernel_rfl
    rw [ce] at hx
    have each : ∀ i, i < len → ∃ q : Int × Int × ByteArray, W.cell? (a.add (i * 3)) = some (.int .i64 q.1) ∧ W.cell? (a.add (i * 3 + 1)) = some (.int .i64 q.2.1) ∧ W.cell? (a.add (i * 3 + 2)) = some (.string q.2.2) ∧ q.2.2.size ≤ maxLen := by
      intro i hi
      obtain ⟨cs', h1, h2⟩ := hx i (by omega)
      obtain ⟨_, hlen, hcell⟩ := World.cells?_some h1
      obtain ⟨y0, y1, y2, n2, -, -, g0, g1, g2⟩ := trod_struct3 Tryz.underlying32 h2
      match cs', hlen, hcell, g0, g1, g2 with
      | [v0, v1, v2], _, hcell, g0, g1, g2 =>
        simp only [cs1, ci1] at g0 g1 g2
        obtain ⟨k0, e0, -, -⟩ := DataW.trod_int Tryz.underlying3 g0
        obtain ⟨k1, e1, -, -⟩ := DataW.trod_int Tryz.underlying3 g1
        obtain ⟨s2, e2, -, w2⟩ := DataW.trod_string Tryz.underlying9 g2
        simp at e0 e1 e2
        subst e0 e1 e2
        have d0 := hcell 0 (by omega)
        have d1 := hcell 1 (by omega)
        have d2 := hcell 2 (by omega)
        rw [add_add] at d0 d1 d2
        exact ⟨(k0, k1, s2), by simpa using d0, by simpa using d1, by simpa using d2, w2⟩
    obtain ⟨q, hq⟩ := choose_lt each
    refine ⟨(List.range len).map q, some a, cap, by simpa using h0, ?_, ?_⟩
    · intro y hy
      rw [List.mem_map] at hy
      obtain ⟨i, hi, rfl⟩ := hy
      exact (hq i (List.mem_range.1 hi)).2.2.2
    · by_cases hz : len = 0
      · exact Or.inl (by rw [hz]; rfl)
      · have c0 := (hq 0 (by omega)).1
        rw [Nat.zero_mul] at c0
        obtain ⟨b, o, rfl⟩ := plain_addr c0
        refine Or.inr ⟨b, o, rfl, World.block_lt_of_cell? W _ c0, fun j hj => ?_⟩
        rw [List.length_map, List.length_range] at hj
        obtain ⟨d0, d1, d2, -⟩ := hq j hj
        rw [add_plain] at d0 d1 d2
        simp only [List.getElem_map, List.getElem_range]
        exact ⟨d0, by rw [Nat.add_assoc, d1], by rw [Nat.add_assoc, d2]⟩

set_option maxRecDepth 100000 in
/-- Rows, opened. -/
theorem open_rows {H : Type} {enc : TypeId × Value → H} {W : World} {n : Nat} {v : Value} {x : DataW H × List MemPlace} (h : DataW.trod enc Tryz.prog W 0 (fun _ => true) true n 23 [v] = some x) : ∃ rs, RowsIs W v rs := by
  rcases open_slice1 Tryz.underlying23 (by kernel_rfl) h with ⟨h0, -⟩ | ⟨a, len, cap, m, k, V, D, Pl, h0, -, hl, hm, hmm, -, hx⟩
  · exact ⟨[], none, 0, by simpa using h0, Or.inl rfl⟩
  · have hmm' : m = cap := by simpa using hmm
    obtain ⟨q, hq⟩ := choose_lt (n := len) (p := fun i r => RowIs W (V i) r) (fun i hi => open_row (hx i (by omega)).2)
    refine ⟨(List.range len).map q, some a, cap, by simpa using h0, ?_⟩
    by_cases hz : len = 0
    · exact Or.inl (by rw [hz]; rfl)
    · have c0 := (hx 0 (by omega)).1
      obtain ⟨b, o, rfl⟩ := plain_addr c0
      refine Or.inr ⟨b, o, rfl, World.block_lt_of_cell? W _ c0, fun j hj => ?_⟩
      rw [List.length_map, List.length_range] at hj
      have d := (hx j (by omega)).1
      rw [add_plain] at d
      simp only [List.getElem_map, List.getElem_range]
      exact ⟨V j, d, hq j hj⟩

set_option maxRecDepth 100000 in
/-- A table, opened. -/
theorem open_table {H : Type} {enc : TypeId × Value → H} {W : World} {b0 : Nat} {v : Value} {d : DataW H} {p : List MemPlace} (hv : Value.okWide Tryz.prog W .any b0 25 v) (h : DataW.Trod enc Tryz.prog W 0 (fun _ => true) true 25 v d p) :
    ∃ vc vr cs rs, v = .agg #[vc, vr] ∧ ColsIs W vc cs ∧ RowsIs W vr rs := by
  obtain ⟨vc, vr, y0, y1, n, rfl, -, -, h0, h1⟩ := open_agg2 Tryz.underlying25 (by kernel_rfl) (by kernel_rfl) hv h
  obtain ⟨cs, hc⟩ := open_cols h0
  obtain ⟨rs, hr⟩ := open_rows h1
  exact ⟨vc, vr, cs, rs, rfl, hc, hr⟩

/-- A list of texts, opened. -/
theorem open_texts {H : Type} {enc : TypeId × Value → H} {W : World} {n : Nat} {v : Value} {x : DataW H × List MemPlace} (h : DataW.trod enc Tryz.prog W 0 (fun _ => true) true n 30 [v] = some x) : ∃ ss, StrsIs W v ss ∧ ss.length ≤ maxLen := by
  rcases open_strs Tryz.underlying30 Tryz.underlying9 (by kernel_rfl) h with ⟨h0, -⟩ | ⟨a, len, cap, m, Sx, h0, -, hl, hm, hmm, -, hx⟩
  · exact ⟨[], ⟨none, 0, by simpa using h0, by simp, Or.inl rfl⟩, Nat.zero_le _⟩
  · have hmm' : m = cap := by simpa using hmm
    refine ⟨(List.range len).map Sx, ⟨some a, cap, by simpa using h0, ?_, ?_⟩, by simp; omega⟩
    · intro y hy
      rw [List.mem_map] at hy
      obtain ⟨i, hi, rfl⟩ := hy
      exact (hx i (by have := List.mem_range.1 hi; omega)).2
    · by_cases hz : len = 0
      · exact Or.inl (by rw [hz]; rfl)
      · have c0 := (hx 0 (by omega)).1
        obtain ⟨b, o, rfl⟩ := plain_addr c0
        refine Or.inr ⟨b, o, rfl, World.block_lt_of_cell? W _ c0, fun j hj => ?_⟩
        rw [List.length_map, List.length_range] at hj
        have d0 := (hx j (by omega)).1
        rw [add_plain] at d0
        simp only [List.getElem_map, List.getElem_range]
        exact d0

theorem cellsS : Tryz.prog.cellsOf 9 = 1 := by kernel_rfl
theorem cellsI : Tryz.prog.cellsOf 3 = 1 := by kernel_rfl
theorem cellsT : Tryz.prog.cellsOf 30 = 1 := by kernel_rfl
theorem cellsV : Tryz.prog.cellsOf 32 = 3 := by kernel_rfl
theorem cellsA : Tryz.prog.cellsOf 34 = 4 := by kernel_rfl

set_option maxRecDepth 100000 in
/-- An argument of a job, opened. -/
theorem open_arg {H : Type} {enc : TypeId × Value → H} {W : World} {n : Nat} {a b c d : Value} {x : DataW H × List MemPlace} (h : DataW.trod enc Tryz.prog W 0 (fun _ => true) true n 34 [a, b, c, d] = some x) :
    ∃ q : Ag, a = .string q.1 ∧ b = .int .i64 q.2.1 ∧ c = .int .i64 q.2.2.1 ∧ d = .string q.2.2.2 ∧ q.1.size ≤ maxLen ∧ q.2.2.2.size ≤ maxLen := by
  obtain ⟨y0, y1, n1, -, -, g0, g1⟩ := trod_struct2 Tryz.underlying34 h
  simp only [cellsS, cellsV] at g0 g1
  obtain ⟨s, e0, -, w0⟩ := DataW.trod_string Tryz.underlying9 g0
  obtain ⟨z0, z1, z2, n2, -, -, k0, k1, k2⟩ := trod_struct3 Tryz.underlying32 g1
  simp only [cellsS, cellsI] at k0 k1 k2
  obtain ⟨i0, f0, -, -⟩ := DataW.trod_int Tryz.underlying3 k0
  obtain ⟨i1, f1, -, -⟩ := DataW.trod_int Tryz.underlying3 k1
  obtain ⟨s2, f2, -, w2⟩ := DataW.trod_string Tryz.underlying9 k2
  simp at e0 f0 f1 f2
  exact ⟨(s, i0, i1, s2), e0, f0, f1, f2, w0, w2⟩

theorem array15 {α : Type} {cs : Array α} (h : cs.size = 15) : ∃ c0 c1 c2 c3 c4 c5 c6 c7 c8 c9 c10 c11 c12 c13 c14, cs = #[c0, c1, c2, c3, c4, c5, c6, c7, c8, c9, c10, c11, c12, c13, c14] := by
  obtain ⟨l⟩ := cs
  match l, h with
  | [c0, c1, c2, c3, c4, c5, c6, c7, c8, c9, c10, c11, c12, c13, c14], _ => exact ⟨c0, c1, c2, c3, c4, c5, c6, c7, c8, c9, c10, c11, c12, c13, c14, rfl⟩

set_option maxRecDepth 100000 in
/-- A job, opened. -/
theorem open_job {H : Type} {enc : TypeId × Value → H} {W : World} {b0 : Nat} {v : Value} {d : DataW H} {p : List MemPlace} (hv : Value.okWide Tryz.prog W .any b0 36 v) (h : DataW.Trod enc Tryz.prog W 0 (fun _ => true) true 36 v d p) :
    ∃ (j : Jb) (ss : List ByteArray), v = .agg j.cells ∧ StrsIs W j.cols ss ∧ ss.length ≤ maxLen ∧ j.sized := by
  obtain ⟨cs, rfl, hsz⟩ := okWide_struct Tryz.underlying36 hv
  obtain ⟨c0, c1, c2, c3, c4, c5, c6, c7, c8, c9, c10, c11, c12, c13, c14, rfl⟩ := array15 (hsz.trans (by kernel_rfl))
  obtain ⟨fuel, hf⟩ := h
  obtain ⟨xs, n, -, -, -, hlen, hfs⟩ := DataW.trod_struct Tryz.underlying36 hf
  match xs, hlen, hfs with
  | [x0, x1, x2, x3, x4, x5, x6, x7, x8], _, hfs =>
    have h0 := hfs 0 _ rfl
    have h1 := hfs 1 _ rfl
    have h4 := hfs 4 _ rfl
    have h5 := hfs 5 _ rfl
    have h6 := hfs 6 _ rfl
    have h7 := hfs 7 _ rfl
    have h8 := hfs 8 _ rfl
    simp only [cellsS, cellsI, cellsT, cellsA, Value.cells] at h0 h1 h4 h5 h6 h7 h8
    obtain ⟨i0, e0, -, -⟩ := DataW.trod_int Tryz.underlying3 (show DataW.trod enc Tryz.prog W 0 _ true n 3 [c0] = some x0 from h0)
    obtain ⟨i1, e1, -, -⟩ := DataW.trod_int Tryz.underlying3 (show DataW.trod enc Tryz.prog W 0 _ true n 3 [c1] = some x1 from h1)
    obtain ⟨ss, hss, hsl⟩ := open_texts (show DataW.trod enc Tryz.prog W 0 _ true n 30 [c4] = some x4 from h4)
    obtain ⟨s5, e5, -, w5⟩ := DataW.trod_string Tryz.underlying9 (show DataW.trod enc Tryz.prog W 0 _ true n 9 [c5] = some x5 from h5)
    obtain ⟨q6, a6, a7, a8, a9, v6, v9⟩ := open_arg (show DataW.trod enc Tryz.prog W 0 _ true n 34 [c6, c7, c8, c9] = some x6 from h6)
    obtain ⟨q7, b6, b7, b8, b9, u6, u9⟩ := open_arg (show DataW.trod enc Tryz.prog W 0 _ true n 34 [c10, c11, c12, c13] = some x7 from h7)
    obtain ⟨i8, e8, -, -⟩ := DataW.trod_int Tryz.underlying3 (show DataW.trod enc Tryz.prog W 0 _ true n 3 [c14] = some x8 from h8)
    simp at e0 e1 e5 e8
    subst e0 e1 e5 e8 a6 a7 a8 a9 b6 b7 b8 b9
    exact ⟨⟨i0, i1, c2, c3, c4, s5, q6, q7, i8⟩, ss, rfl, hss, hsl, w5, v6, u6, v9, u9⟩

theorem own : ownKnob Tryz.prog.godebug = none := by kernel_rfl
theorem gKinds : Tryz.prog.globalNamed "foreman/table.kindWords" = some 0 := by kernel_rfl
theorem tKinds : (Tryz.prog.globals[0]?).map (·.type) = some 88 := by kernel_rfl
theorem gPow : Tryz.prog.globalNamed "internal/strconv.uint64pow10" = some 4 := by kernel_rfl
theorem tPow : (Tryz.prog.globals[4]?).map (·.type) = some 197 := by kernel_rfl
theorem starE : "*" ++ "errors.errorString" = "*errors.errorString" := by decide
theorem rowE (u : TypeId) (h : Tryz.prog.typeName? 3 u = some "*errors.errorString") : u = 205 :=
  typeName_ptr_named (nm := "errors.errorString") (by rw [starE]; kernel_rfl) (by kernel_rfl) (by decide) u (by rw [starE]; exact h)
theorem cellsStr : Tryz.prog.cellsOf 9 = 1 := by kernel_rfl

set_option maxRecDepth 100000 in
/-- What the listed variables give. -/
theorem env_of {W : World} (hL : laidMet Tryz.prog Rows.opsOnceRow.laid W) (hsh : W.ShapedOpen Tryz.prog) : Env W := by
  have hm : ∃ m, W.cell? ⟨1, 0, none⟩ = some (.int .i64 m) :=
    Go.Proofs.cell_of_shapedOpen_int (zero := #[.int .i64 0]) (t := 3) hsh (of_decide_eq_true (by kernel_rfl)) (by kernel_rfl) rfl (by kernel_rfl) (by kernel_rfl) Tryz.underlying3
  have hp : Lib.TabIs Tryz.prog W "internal/strconv.uint64pow10" .u64 Lib.pow10Tab := by
    obtain ⟨g, t, cs, fuel, p, hg, ht, hv, hd⟩ := Lib.laidMet.reads hL (n := "internal/strconv.uint64pow10") (d := Rows.laid_internal_strconv_uint64pow10) (.tail _ (.tail _ (.head _)))
    obtain rfl := Option.some.inj (gPow.symm.trans hg)
    obtain rfl := Option.some.inj (tPow.symm.trans ht)
    have e : (Rows.laid_internal_strconv_uint64pow10 : DataW Unit) = Lib.tabData .u64 Lib.pow10Tab := rfl
    rw [e] at hd
    have := Lib.cells_of_tab Tryz.underlying197 Tryz.underlying185 (by kernel_rfl) (by kernel_rfl) hd
    unfold Lib.TabIs
    rw [hv, ← this]
  have hk : W.cell? ⟨0, 0, none⟩ = some (.string ⟨#[]⟩) ∧ W.cell? ⟨0, 1, none⟩ = some (.string ⟨#[105, 110, 116]⟩) ∧ W.cell? ⟨0, 2, none⟩ = some (.string ⟨#[116, 101, 120, 116]⟩) := by
    obtain ⟨g, t, cs, fuel, p, hg, ht, hv, hd⟩ := Lib.laidMet.reads hL (n := "foreman/table.kindWords") (d := Rows.laid_foreman_table_kindWords) (.tail _ (.tail _ (.tail _ (.tail _ (.tail _ (.tail _ (.head _)))))))
    obtain rfl := Option.some.inj (gKinds.symm.trans hg)
    obtain rfl := Option.some.inj (tKinds.symm.trans ht)
    have c0 := World.var?_cell hg hv 0
    have c1 := World.var?_cell hg hv 1
    have c2 := World.var?_cell hg hv 2
    obtain ⟨xs, m1, rfl, hx1, hlen, hn3, hel⟩ := DataW.trod_array Tryz.underlying88 hd
    have h0 := hel 0 (by decide)
    have h1 := hel 1 (by decide)
    have h2 := hel 2 (by decide)
    simp only [Prod.mk.injEq, Rows.laid_foreman_table_kindWords, DataW.agg.injEq] at hx1
    match xs, hn3, hx1, h0, h1, h2 with
    | [x0, x1, x2], _, hx1, h0, h1, h2 =>
      simp only [List.map_cons, List.map_nil, List.cons.injEq, and_true] at hx1
      obtain ⟨⟨e0, e1, e2⟩, -⟩ := hx1
      rw [cellsStr] at h0 h1 h2
      obtain ⟨s0, a0, b0, -⟩ := DataW.trod_string Tryz.underlying9 (show DataW.trod _ Tryz.prog W 0 _ false m1 9 _ = some x0 from h0)
      obtain ⟨s1, a1, b1, -⟩ := DataW.trod_string Tryz.underlying9 (show DataW.trod _ Tryz.prog W 0 _ false m1 9 _ = some x1 from h1)
      obtain ⟨s2, a2, b2, -⟩ := DataW.trod_string Tryz.underlying9 (show DataW.trod _ Tryz.prog W 0 _ false m1 9 _ = some x2 from h2)
      rw [b0] at e0
      rw [b1] at e1
      rw [b2] at e2
      simp only [DataW.lit.injEq, Lit.string.injEq] at e0 e1 e2
      obtain ⟨l⟩ := cs
      match l, hlen, a0, a1, a2 with
      | [y0, y1, y2], _, a0, a1, a2 =>
        simp at a0 a1 a2
        subst a0 a1 a2
        simp at c0 c1 c2
        exact ⟨by rw [c0, str_of e0.symm], by rw [c1, str_of e1.symm], by rw [c2, str_of e2.symm]⟩
  obtain ⟨aR, tR, hvR, hcR, -, -⟩ := laid_sentinel (g := 3) hL.tail.tail.tail.tail (by kernel_rfl) (by kernel_rfl) Tryz.underlying59 rowE Tryz.underlying205 Tryz.underlying207 rfl rfl Tryz.underlying9 (by kernel_rfl) (by kernel_rfl)
  obtain ⟨aS, tS, hvS, hcS, -, -⟩ := laid_sentinel (g := 2) hL.tail.tail.tail.tail.tail (by kernel_rfl) (by kernel_rfl) Tryz.underlying59 rowE Tryz.underlying205 Tryz.underlying207 rfl rfl Tryz.underlying9 (by kernel_rfl) (by kernel_rfl)
  refine ⟨?_, hm, hk.1, hk.2.1, hk.2.2, ⟨_, _, hvS⟩, ⟨_, _, hvR⟩, hp⟩
  intro g hg
  have lt : ∀ (g i : Nat) (v : Value), W.cell? ⟨g, i, none⟩ = some v → g < W.heap.size := fun g i v h => World.block_lt_of_cell? W ⟨g, i, none⟩ h
  simp only [List.mem_cons, List.not_mem_nil, or_false] at hg
  rcases hg with rfl | rfl | rfl | rfl | rfl
  · obtain ⟨m, hm⟩ := hm; exact lt _ _ _ hm
  · exact lt _ _ _ hk.1
  · exact lt _ 0 _ ((World.var?_cell (by kernel_rfl) hvS 0).trans rfl)
  · exact lt _ 0 _ ((World.var?_cell (by kernel_rfl) hvR 0).trans rfl)
  · exact lt _ 0 _ ((World.var?_cell gPow hp 0).trans rfl)


/-- A list of texts, opened, with its room. -/
theorem open_textsC {H : Type} {enc : TypeId × Value → H} {W : World} {n : Nat} {v : Value} {x : DataW H × List MemPlace} (h : DataW.trod enc Tryz.prog W 0 (fun _ => true) true n 30 [v] = some x) : ∃ ss, StrsIs W v ss ∧ StrsC W v ss := by
  rcases open_strs Tryz.underlying30 Tryz.underlying9 (by kernel_rfl) h with ⟨h0, -⟩ | ⟨a, len, cap, m, Sx, h0, -, hl, hm, hmm, -, hx⟩
  · have h0' : v = .slice none 0 0 := by simpa using h0
    exact ⟨[], ⟨none, 0, h0', by simp, Or.inl rfl⟩, ⟨none, 0, h0', Nat.le_refl _, Nat.zero_le _, Or.inl rfl⟩⟩
  · have hmm' : m = cap := by simpa using hmm
    have h0' : v = .slice (some a) len cap := by simpa using h0
    have hat : (List.range len).map Sx = [] ∨ ∃ b o, some a = some (⟨b, o, none⟩ : Addr) ∧ b < W.heap.size ∧ StrsAt W b o ((List.range len).map Sx) := by
      by_cases hz : len = 0
      · exact Or.inl (by rw [hz]; rfl)
      · have c0 := (hx 0 (by omega)).1
        obtain ⟨b, o, rfl⟩ := plain_addr c0
        refine Or.inr ⟨b, o, rfl, World.block_lt_of_cell? W _ c0, fun j hj => ?_⟩
        rw [List.length_map, List.length_range] at hj
        have d0 := (hx j (by omega)).1
        rw [add_plain] at d0
        simp only [List.getElem_map, List.getElem_range]
        exact d0
    refine ⟨(List.range len).map Sx, ⟨some a, cap, by simpa using h0', ?_, hat⟩, ⟨some a, cap, by simpa using h0', by simpa using hl, by simp; omega, hat⟩⟩
    intro y hy
    rw [List.mem_map] at hy
    obtain ⟨i, hi, rfl⟩ := hy
    exact (hx i (by have := List.mem_range.1 hi; omega)).2

theorem sorts_any (cv : Value) (ss : List ByteArray) (j : Jb) (js : List ByteArray) (vc vr : Value) (cs : List Cl) (rs : List (List Vl)) (w : World) (hss : StrsIs w cv ss) (hsc : StrsC w cv ss) (hjs : StrsIs w j.cols js) (hjl : js.length ≤ maxLen) (hsz : j.sized) (hc : ColsIs w vc cs) (hr : RowsIs w vr rs) (hE : Env w) :
    Calls Tryz.prog 5 #[cv, .agg j.cells, .agg #[vc, vr]] w fun e w' => e = .returned (.bool true) ∧ Below w.heap.size w w' := by
  by_cases hP : projNo (cs, rs) ss = 0
  · by_cases hF : filtNo j.fil (cs, rs) = 0
    · exact sorts_oky cv ss j js vc vr cs rs w hss hsc hjs hjl hsz hc hr hE ⟨hP, hF⟩
    · exact sorts_okn cv ss j js vc vr cs rs w hss hsc hjs hjl hsz hc hr hE ⟨hP, hF⟩
  · exact sorts_bad cv ss j js vc vr cs rs w hss hsc hjs hjl hsz hc hr hE hP

set_option maxRecDepth 100000 in
theorem contractSort (H : Type) (enc : TypeId × Value → H) (W : World) (base : Nat) (args : Array Value) (ds gs : List (DataW H)) (before : List MemPlace)
    (hval : ∀ (j : Nat) t v, Tryz.f5.params[j]? = some t → args[j]? = some v → Value.okWide Tryz.prog W .any base t v)
    (hW : DataW.Whole enc Tryz.prog Tryz.f5.params.toList Rows.opsSortSpec.vars false W args.toList ds gs before) (hL : laidMetH Tryz.prog Rows.opsSortRow.laid W) (hsh : W.ShapedOpen Tryz.prog) :
    Calls Tryz.prog 5 args W fun e W' => ∃ v, e = .returned v ∧ Rows.opsSortSpec.post enc Tryz.prog Tryz.f5 false true false false W args v W' := by
  have hW' := hW
  obtain ⟨p, q, hA0, hV, rfl, hfz, hnd⟩ := hW
  have hA : DataW.TrodAll enc Tryz.prog W 0 (fun _ => true) true Tryz.f5.params.toList args.toList ds p := hA0
  rw [Tryz.params5] at hA hval
  obtain ⟨v0, v1, v2, d0, d1, d2, p0, p1, p2, rfl, rfl, rfl, h0, h1, h2⟩ := trodAll_three hA
  obtain ⟨rfl, rfl⟩ := trodVars_none hV
  have k0 := hval 0 30 v0 rfl rfl
  have k1 := hval 1 36 v1 rfl rfl
  have k2 := hval 2 25 v2 rfl rfl
  obtain ⟨sa, sl, scp, rfl⟩ := okWide_slice Tryz.underlying30 k0
  obtain ⟨ss, hss, hsc⟩ : ∃ ss, StrsIs W (.slice sa sl scp) ss ∧ StrsC W (.slice sa sl scp) ss := by
    obtain ⟨n0, g0⟩ := h0
    exact open_textsC g0
  obtain ⟨j, js, rfl, hjs, hjl, hsz⟩ := open_job k1 h1
  obtain ⟨vc, vr, cs, rs, rfl, hc, hr⟩ := open_table k2 h2
  have hL' : laidMet Tryz.prog Rows.opsOnceRow.laid W := by rw [← MakeChecks.laidMetH_plain _ _ _ (by kernel_rfl)]; exact hL
  clear hA0
  refine (sorts_any _ ss j js vc vr cs rs W hss hsc hjs hjl hsz hc hr (env_of hL' hsh)).mono fun e W' ⟨he, hbl⟩ => ?_
  subst he
  refine ⟨_, rfl, _, _, _, [], p0 ++ p1 ++ p2, [], hW', trodAll_mk1 (shut_bool Tryz.underlying4 _), ?_, rfl, hbl.frame _, fun h => by cases h⟩
  have lo : laidOutB Tryz.prog = true := by kernel_rfl
  obtain ⟨n0, g0⟩ := h0
  obtain ⟨n1, g1⟩ := h1
  obtain ⟨n2, g2⟩ := h2
  have h := trodAll_mk3 (Below.trod lo (by kernel_rfl) (of_decide_eq_true (by kernel_rfl)) ⟨n0, g0⟩ hbl (DataW.trod_lt n0 _ _ _ g0)) (Below.trod lo (by kernel_rfl) (of_decide_eq_true (by kernel_rfl)) ⟨n1, g1⟩ hbl (DataW.trod_lt n1 _ _ _ g1)) (Below.trod lo (by kernel_rfl) (of_decide_eq_true (by kernel_rfl)) ⟨n2, g2⟩ hbl (DataW.trod_lt n2 _ _ _ g2))
  rw [← List.append_assoc] at h
  exact h

/-- The witness' arguments: no text, the job of nothing, the table of nothing. -/
def zeroArgs : Array Value := #[.slice none 0 0, .agg #[.int .i64 0, .int .i64 0, .slice none 0 0, .slice none 0 0, .slice none 0 0, .string ⟨#[]⟩, .string ⟨#[]⟩, .int .i64 0, .int .i64 0, .string ⟨#[]⟩, .string ⟨#[]⟩, .int .i64 0, .int .i64 0, .string ⟨#[]⟩, .int .i64 0], .agg #[.slice none 0 0, .slice none 0 0]]

set_option maxRecDepth 100000 in
theorem liftedSort (os : Os) (started : os.Started) (H : Type) (enc : TypeId × Value → H) (F : Stop.Interp) :
    ReturnsInHanded {} Tryz.checked os 5 .any ((OpenSpec.ofChange Rows.opsSortSpec).preRow enc Tryz.prog Tryz.f5 Rows.opsSortRow.domain false Rows.opsSortRow.laid) (((OpenSpec.ofChange Rows.opsSortSpec).at F).post enc Tryz.prog Tryz.f5 false true false false) := by
  refine returnsInHanded_of_row (C := Tryz.checked) (s := OpenSpec.ofChange Rows.opsSortSpec) own started (by kernel_rfl) Tryz.func5
    (ChangeSpec.witness_shaped (enc := enc) (C := Tryz.checked) (os := os) (fn := Tryz.f5) (s := Rows.opsSortSpec) (conds := Rows.opsSortRow.domain) (apart := false) (X := fun w _ => laidMetH Tryz.prog Rows.opsSortRow.laid w) false (World.laidAll Tryz.prog os Rows.opsSortRow.laid) zeroArgs 8 (World.laidAll_os _ _ _)
      (World.shaped_of_ZipB (by kernel_rfl) (by kernel_rfl)) (by kernel_rfl) (by kernel_rfl) (by kernel_rfl)
      (by rw [MakeChecks.laidMetH_plain _ _ _ (by kernel_rfl)]; exact laidMet_laidAll _ (by kernel_rfl) (by kernel_rfl))) ?_
  intro W base args ds gs before hval hW _ _ _ hL hsh _
  exact contractSort H enc W base args ds gs before hval hW hL hsh

theorem saidSort : Rows.OpsSortSaid :=
  OpenClaim.holds_of_cond 5 Tryz.f5 rfl rfl rfl rfl rfl rfl rfl ⟨rfl, rfl, rfl, rfl, rfl⟩ rfl rfl rfl rfl rfl (by kernel_rfl) Tryz.func5 (by kernel_rfl)
    (of_decide_eq_true (by kernel_rfl)) (by unfold Func.isWrapper; first | (rw [if_pos (by decide +kernel)]; kernel_rfl) | (rw [if_neg (by decide +kernel)]; exact ⟨rfl, rfl⟩))
    (fun os started H enc _ F => by rw [OpenClaim.pre_eq_preRow]; exact liftedSort os started H enc F)

theorem plainSort (f : FuncId) (fn : Func) (hf : Tryz.pinned.checked.prog.funcNamed "foreman/foremankeep.OpsSort" = some f) (hfn : Tryz.pinned.checked.prog.funcs[f]? = some fn) :
    true = Tryz.pinned.checked.prog.looks [] ∧ ∀ (j : Nat) t, fn.params[j]? = some t → Tryz.pinned.checked.prog.wantsStandIn t = false := by
  obtain rfl : f = 5 := Option.some.inj ((show Tryz.prog.funcNamed "foreman/foremankeep.OpsSort" = some 5 by kernel_rfl).symm.trans hf) |>.symm
  obtain rfl : fn = Tryz.f5 := (Option.some.inj (Tryz.func5.symm.trans hfn)).symm
  refine ⟨by kernel_rfl, fun j t ht => ?_⟩
  rw [Tryz.params5] at ht
  have hm : t = 30 ∨ t = 36 ∨ t = 25 := by simpa using Array.mem_of_getElem? ht
  rcases hm with rfl | rfl | rfl
  · exact (show Tryz.prog.wantsStandIn 30 = false by kernel_rfl)
  · exact (show Tryz.prog.wantsStandIn 36 = false by kernel_rfl)
  · exact (show Tryz.prog.wantsStandIn 25 = false by kernel_rfl)

/-- The card. -/
theorem cardSort : Rows.OpsSortCardSaid :=
  Claim7.holds_tied_plain_at .later [] _ _ _ _ saidSort (fun _ h => by cases h) (by kernel_rfl) (fun _ h => by cases h) opsSort_row_tie rfl ⟨rfl, rfl⟩ (by kernel_rfl) rfl plainSort (by kernel_rfl)
end Go.Proofs.YtccbjhaebajamaaGreatDoor
