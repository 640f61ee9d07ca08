import Derived.Test.YtajkjhkjgibcfaaDoorRows
import Derived.Test.YtajkjhkjgibcfaaDoorFlwB
import Derived.ProofKit
import Derived.OpenShut
import Derived.Stop.LaidErr
import Derived.Lib.LaidTab
import Derived.Lib.LaidU8
import Derived.Lay
import Derived.Deep.DeepHandedRow
set_option linter.unusedSimpArgs false
set_option linter.unusedVariables false
namespace Go.Proofs.YtajkjhkjgibcfaaDoor
open Go.ChangeShapes Go.WideShapes Go.ChangeAt Go.RowKit

theorem ownF : ownKnob Tryd.prog.godebug = none := by kernel_rfl
theorem starEF : "*" ++ "errors.errorString" = "*errors.errorString" := by decide
theorem rowEF (u : TypeId) (h : Tryd.prog.typeName? 3 u = some "*errors.errorString") : u = 141 :=
  typeName_ptr_named (nm := "errors.errorString") (by rw [starEF]; kernel_rfl) (by kernel_rfl) (by decide) u (by rw [starEF]; exact h)
theorem cellsStrF : Tryd.prog.cellsOf 9 = 1 := by kernel_rfl
/-- An array of texts, laid. -/
theorem strs_laid {W : World} {base : Nat} {sp : Nat → Bool} {held : Bool} {fuel n : Nat} {t : TypeId} {cs : List Value} {L : List By} {p : List MemPlace} {H : Type} {enc : TypeId × Value → H}
    (ht : Tryd.prog.underlying t = some (.array n 9)) (hct : Tryd.prog.cellsOf t = n)
    (h : DataW.trod enc Tryd.prog W base sp held fuel t cs = some (.agg (L.map fun b => .lit (.string b)), p)) : cs = L.map fun b => .string (ba b) := by
  obtain ⟨xs, m, rfl, hx, hlen, hn, hel⟩ := DataW.trod_array ht h
  simp only [Prod.mk.injEq, DataW.agg.injEq] at hx
  have hl : L.length = n := by
    have := congrArg List.length hx.1
    simp only [List.length_map] at this
    omega
  rw [hct] at hlen
  refine List.ext_getElem (by rw [List.length_map]; omega) fun i h1 h2 => ?_
  have hi : i < n := by omega
  have := hel i hi
  rw [cellsStrF, Nat.mul_one, List.getElem?_eq_getElem (by omega)] at this
  obtain ⟨s, a, b, -⟩ := DataW.trod_string Tryd.underlying9 this
  have e1 : cs[i] = .string s := by
    have q : ((cs.drop i).take 1)[0]? = some (.string s) := by rw [a]; rfl
    rw [List.getElem?_take, if_pos (by decide), List.getElem?_drop, Nat.add_zero, List.getElem?_eq_getElem h1] at q
    exact Option.some.inj q
  have e2 : (L.map fun b => (DataW.lit (.string b) : DataW H))[i]? = some (.lit (.string s.data.toList)) := by
    rw [hx.1, List.getElem?_map, List.getElem?_eq_getElem (by omega), b]
    rfl
  rw [List.getElem?_map, List.getElem?_eq_getElem (by omega)] at e2
  simp only [Option.map_some, Option.some.injEq, DataW.lit.injEq, Lit.string.injEq] at e2
  rw [e1, List.getElem_map, e2]
theorem cells_at {W : World} {g : Nat} {nm : String} {cs : Array Value} {L : List By} (hg : Tryd.prog.globalNamed nm = some g) (hv : W.var? Tryd.prog nm = some cs) (h : cs.toList = L.map fun b => .string (ba b)) (j : Nat) (hj : j < L.length) : W.cell? ⟨g, j, none⟩ = some (.string (ba L[j])) := by
  have := World.var?_cell hg hv j
  rw [this, ← Array.getElem?_toList, h, List.getElem?_map, List.getElem?_eq_getElem hj]
  rfl
theorem gMarks : Tryd.prog.globalNamed "foreman/flow.marks" = some 2 := by kernel_rfl
theorem tMarks : (Tryd.prog.globals[2]?).map (·.type) = some 91 := by kernel_rfl
theorem gVerbs : Tryd.prog.globalNamed "foreman/flow.verbs" = some 1 := by kernel_rfl
theorem tVerbs : (Tryd.prog.globals[1]?).map (·.type) = some 86 := by kernel_rfl
theorem gFKinds : Tryd.prog.globalNamed "foreman/flow.kinds" = some 0 := by kernel_rfl
theorem tFKinds : (Tryd.prog.globals[0]?).map (·.type) = some 84 := by kernel_rfl
theorem gPowF : Tryd.prog.globalNamed "internal/strconv.uint64pow10" = some 4 := by kernel_rfl
theorem tPowF : (Tryd.prog.globals[4]?).map (·.type) = some 128 := by kernel_rfl
theorem marks_lay : (Rows.laid_foreman_flow_marks : DataW Unit) = .agg (marksL.map fun b => .lit (.string b)) := rfl
theorem verbs_lay : (Rows.laid_foreman_flow_verbs : DataW Unit) = .agg (verbs0.map fun b => .lit (.string b)) := rfl
theorem kinds_lay : (Rows.laid_foreman_flow_kinds : DataW Unit) = .agg (kinds0.map fun b => .lit (.string b)) := rfl

set_option maxRecDepth 100000 in
theorem fenv_of {W : World} (hL : laidMet Tryd.prog Rows.flowBackRow.laid W) : FEnv W := by
  have hp : Lib.TabIs Tryd.prog W "internal/strconv.uint64pow10" .u64 Lib.pow10Tab := by
    obtain ⟨g, t, cs, fuel, p, hg, ht, hv, hd⟩ := Lib.laidMet.reads hL (n := "internal/strconv.uint64pow10") (d := Rows.laid_internal_strconv_uint64pow10) (.tail _ (.tail _ (.head _)))
    obtain rfl := Option.some.inj (gPowF.symm.trans hg)
    obtain rfl := Option.some.inj (tPowF.symm.trans ht)
    have e : (Rows.laid_internal_strconv_uint64pow10 : DataW Unit) = Lib.tabData .u64 Lib.pow10Tab := rfl
    rw [e] at hd
    have := Lib.cells_of_tab Tryd.underlying128 Tryd.underlying114 (by kernel_rfl) (by kernel_rfl) hd
    unfold Lib.TabIs
    rw [hv, ← this]
  have hv : ∀ (j : Nat) (h : j < verbs0.length), W.cell? ⟨1, j, none⟩ = some (.string (ba verbs0[j])) := by
    obtain ⟨g, t, cs, fuel, p, hg, ht, hv, hd⟩ := Lib.laidMet.reads hL (n := "foreman/flow.verbs") (d := Rows.laid_foreman_flow_verbs) (.tail _ (.tail _ (.tail _ (.tail _ (.tail _ (.head _))))))
    obtain rfl := Option.some.inj (gVerbs.symm.trans hg)
    obtain rfl := Option.some.inj (tVerbs.symm.trans ht)
    rw [verbs_lay] at hd
    exact cells_at hg hv (strs_laid Tryd.underlying86 (by kernel_rfl) hd)
  have hk : ∀ (j : Nat) (h : j < kinds0.length), W.cell? ⟨0, j, none⟩ = some (.string (ba kinds0[j])) := by
    obtain ⟨g, t, cs, fuel, p, hg, ht, hv, hd⟩ := Lib.laidMet.reads hL (n := "foreman/flow.kinds") (d := Rows.laid_foreman_flow_kinds) (.tail _ (.tail _ (.tail _ (.tail _ (.tail _ (.tail _ (.head _)))))))
    obtain rfl := Option.some.inj (gFKinds.symm.trans hg)
    obtain rfl := Option.some.inj (tFKinds.symm.trans ht)
    rw [kinds_lay] at hd
    exact cells_at hg hv (strs_laid Tryd.underlying84 (by kernel_rfl) hd)
  have hm : ∀ (j : Nat) (h : j < marksL.length), W.cell? ⟨2, j, none⟩ = some (.string (ba marksL[j])) := by
    obtain ⟨g, t, cs, fuel, p, hg, ht, hv, hd⟩ := Lib.laidMet.reads hL (n := "foreman/flow.marks") (d := Rows.laid_foreman_flow_marks) (.tail _ (.tail _ (.tail _ (.tail _ (.tail _ (.tail _ (.tail _ (.head _))))))))
    obtain rfl := Option.some.inj (gMarks.symm.trans hg)
    obtain rfl := Option.some.inj (tMarks.symm.trans ht)
    rw [marks_lay] at hd
    exact cells_at hg hv (strs_laid Tryd.underlying91 (by kernel_rfl) hd)
  obtain ⟨aR, tR, hvR, hcR, -, -⟩ := laid_sentinel (g := 6) hL.tail.tail.tail (by kernel_rfl) (by kernel_rfl) Tryd.underlying29 rowEF Tryd.underlying141 Tryd.underlying143 rfl rfl Tryd.underlying9 (by kernel_rfl) (by kernel_rfl)
  obtain ⟨aS, tS, hvS, hcS, -, -⟩ := laid_sentinel (g := 5) hL.tail.tail.tail.tail (by kernel_rfl) (by kernel_rfl) Tryd.underlying29 rowEF Tryd.underlying141 Tryd.underlying143 rfl rfl Tryd.underlying9 (by kernel_rfl) (by kernel_rfl)
  refine ⟨?_, hm, hv, hk, ⟨_, _, hvS⟩, ⟨_, _, hvR⟩, hp⟩
  intro g hg
  have lt : ∀ (g i : Nat) (v : Value), W.cell? ⟨g, i, none⟩ = some v → g < W.heap.size := fun g i v h => World.block_lt_of_cell? W ⟨g, i, none⟩ h
  simp only [flowVars, List.mem_cons, List.not_mem_nil, or_false] at hg
  rcases hg with rfl | rfl | rfl | rfl | rfl | rfl
  · exact lt _ _ _ (hm 0 (by decide))
  · exact lt _ _ _ (hv 0 (by decide))
  · exact lt _ _ _ (hk 0 (by decide))
  · exact lt _ 0 _ ((World.var?_cell (by kernel_rfl) hvS 0).trans rfl)
  · exact lt _ 0 _ ((World.var?_cell (by kernel_rfl) hvR 0).trans rfl)
  · exact lt _ 0 _ ((World.var?_cell gPowF hp 0).trans rfl)
end Go.Proofs.YtajkjhkjgibcfaaDoor

