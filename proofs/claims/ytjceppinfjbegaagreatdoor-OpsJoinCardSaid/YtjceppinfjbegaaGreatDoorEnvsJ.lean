import Derived.Test.YtjceppinfjbegaaGreatDoorRows
import Derived.Test.YtjceppinfjbegaaGreatDoorWalkI
import Derived.ProofKit
import Derived.OpenShut
import Derived.Stop.LaidErr
import Derived.Lib.LaidTab
import Derived.Lib.LaidU8
import Derived.Lay
import Derived.Deep.DeepHandedRow
set_option linter.unusedSimpArgs false
set_option linter.unusedVariables false
namespace Go.Proofs.YtjceppinfjbegaaGreatDoor
open Go.ChangeShapes Go.WideShapes Go.ChangeAt Go.RowKit

theorem own : ownKnob Tryz.prog.godebug = none := by kernel_rfl
theorem gKinds : Tryz.prog.globalNamed "foreman/table.kindWords" = some 0 := by kernel_rfl
theorem tKinds : (Tryz.prog.globals[0]?).map (·.type) = some 137 := by kernel_rfl
theorem gPow : Tryz.prog.globalNamed "internal/strconv.uint64pow10" = some 3 := by kernel_rfl
theorem tPow : (Tryz.prog.globals[3]?).map (·.type) = some 247 := by kernel_rfl
theorem starE : "*" ++ "errors.errorString" = "*errors.errorString" := by decide
theorem rowE (u : TypeId) (h : Tryz.prog.typeName? 3 u = some "*errors.errorString") : u = 262 :=
  typeName_ptr_named (nm := "errors.errorString") (by rw [starE]; kernel_rfl) (by kernel_rfl) (by decide) u (by rw [starE]; exact h)
theorem cellsStr : Tryz.prog.cellsOf 9 = 1 := by kernel_rfl

set_option maxRecDepth 100000 in
/-- What the listed variables give. -/
theorem env_of {W : World} (hL : laidMet Tryz.prog Rows.opsJoinRow.laid W) (hsh : W.ShapedOpen Tryz.prog) : Env W := by
  have hm : ∃ m, W.cell? ⟨1, 0, none⟩ = some (.int .i64 m) :=
    Go.Proofs.cell_of_shapedOpen_int (zero := #[.int .i64 0]) (t := 3) hsh (of_decide_eq_true (by kernel_rfl)) (by kernel_rfl) rfl (by kernel_rfl) (by kernel_rfl) Tryz.underlying3
  have hp : Lib.TabIs Tryz.prog W "internal/strconv.uint64pow10" .u64 Lib.pow10Tab := by
    obtain ⟨g, t, cs, fuel, p, hg, ht, hv, hd⟩ := Lib.laidMet.reads hL (n := "internal/strconv.uint64pow10") (d := Rows.laid_internal_strconv_uint64pow10) (.tail _ (.tail _ (.head _)))
    obtain rfl := Option.some.inj (gPow.symm.trans hg)
    obtain rfl := Option.some.inj (tPow.symm.trans ht)
    have e : (Rows.laid_internal_strconv_uint64pow10 : DataW Unit) = Lib.tabData .u64 Lib.pow10Tab := rfl
    rw [e] at hd
    have := Lib.cells_of_tab Tryz.underlying247 Tryz.underlying232 (by kernel_rfl) (by kernel_rfl) hd
    unfold Lib.TabIs
    rw [hv, ← this]
  have hk : W.cell? ⟨0, 0, none⟩ = some (.string ⟨#[]⟩) ∧ W.cell? ⟨0, 1, none⟩ = some (.string ⟨#[105, 110, 116]⟩) ∧ W.cell? ⟨0, 2, none⟩ = some (.string ⟨#[116, 101, 120, 116]⟩) := by
    obtain ⟨g, t, cs, fuel, p, hg, ht, hv, hd⟩ := Lib.laidMet.reads hL (n := "foreman/table.kindWords") (d := Rows.laid_foreman_table_kindWords) (.tail _ (.tail _ (.tail _ (.tail _ (.tail _ (.tail _ (.head _)))))))
    obtain rfl := Option.some.inj (gKinds.symm.trans hg)
    obtain rfl := Option.some.inj (tKinds.symm.trans ht)
    have c0 := World.var?_cell hg hv 0
    have c1 := World.var?_cell hg hv 1
    have c2 := World.var?_cell hg hv 2
    obtain ⟨xs, m1, rfl, hx1, hlen, hn3, hel⟩ := DataW.trod_array Tryz.underlying137 hd
    have h0 := hel 0 (by decide)
    have h1 := hel 1 (by decide)
    have h2 := hel 2 (by decide)
    simp only [Prod.mk.injEq, Rows.laid_foreman_table_kindWords, DataW.agg.injEq] at hx1
    match xs, hn3, hx1, h0, h1, h2 with
    | [x0, x1, x2], _, hx1, h0, h1, h2 =>
      simp only [List.map_cons, List.map_nil, List.cons.injEq, and_true] at hx1
      obtain ⟨⟨e0, e1, e2⟩, -⟩ := hx1
      rw [cellsStr] at h0 h1 h2
      obtain ⟨s0, a0, b0, -⟩ := DataW.trod_string Tryz.underlying9 (show DataW.trod _ Tryz.prog W 0 _ false m1 9 _ = some x0 from h0)
      obtain ⟨s1, a1, b1, -⟩ := DataW.trod_string Tryz.underlying9 (show DataW.trod _ Tryz.prog W 0 _ false m1 9 _ = some x1 from h1)
      obtain ⟨s2, a2, b2, -⟩ := DataW.trod_string Tryz.underlying9 (show DataW.trod _ Tryz.prog W 0 _ false m1 9 _ = some x2 from h2)
      rw [b0] at e0
      rw [b1] at e1
      rw [b2] at e2
      simp only [DataW.lit.injEq, Lit.string.injEq] at e0 e1 e2
      obtain ⟨l⟩ := cs
      match l, hlen, a0, a1, a2 with
      | [y0, y1, y2], _, a0, a1, a2 =>
        simp at a0 a1 a2
        subst a0 a1 a2
        simp at c0 c1 c2
        exact ⟨by rw [c0, str_of e0.symm], by rw [c1, str_of e1.symm], by rw [c2, str_of e2.symm]⟩
  obtain ⟨aR, tR, hvR, hcR, -, -⟩ := laid_sentinel (g := 5) hL.tail.tail.tail.tail (by kernel_rfl) (by kernel_rfl) Tryz.underlying44 rowE Tryz.underlying262 Tryz.underlying264 rfl rfl Tryz.underlying9 (by kernel_rfl) (by kernel_rfl)
  obtain ⟨aS, tS, hvS, hcS, -, -⟩ := laid_sentinel (g := 4) hL.tail.tail.tail.tail.tail (by kernel_rfl) (by kernel_rfl) Tryz.underlying44 rowE Tryz.underlying262 Tryz.underlying264 rfl rfl Tryz.underlying9 (by kernel_rfl) (by kernel_rfl)
  refine ⟨?_, hm, hk.1, hk.2.1, hk.2.2, ⟨_, _, hvS⟩, ⟨_, _, hvR⟩, hp⟩
  intro g hg
  have lt : ∀ (g i : Nat) (v : Value), W.cell? ⟨g, i, none⟩ = some v → g < W.heap.size := fun g i v h => World.block_lt_of_cell? W ⟨g, i, none⟩ h
  simp only [List.mem_cons, List.not_mem_nil, or_false] at hg
  rcases hg with rfl | rfl | rfl | rfl | rfl
  · obtain ⟨m, hm⟩ := hm; exact lt _ _ _ hm
  · exact lt _ _ _ hk.1
  · exact lt _ 0 _ ((World.var?_cell (by kernel_rfl) hvS 0).trans rfl)
  · exact lt _ 0 _ ((World.var?_cell (by kernel_rfl) hvR 0).trans rfl)
  · exact lt _ 0 _ ((World.var?_cell gPow hp 0).trans rfl)
end Go.Proofs.YtjceppinfjbegaaGreatDoor

