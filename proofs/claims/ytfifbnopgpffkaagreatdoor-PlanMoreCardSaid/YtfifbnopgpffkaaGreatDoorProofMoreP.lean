/-
  With one job more, of a name that is not taken, nothing is found, all other names have the columns that they had, and the other jobs come in the order in which they came: foremankeep.PlanMore returns true at every two texts, whatever memory and schedule, and its arguments read as they did. Its conditions: the listed package-level variables start as the program's text lays them (the tied card); nothing is narrowed besides.
-/
import Derived.Test.YtfifbnopgpffkaaGreatDoorRows
import Derived.Test.YtfifbnopgpffkaaGreatDoorFlwB
import Derived.ProofKit
import Derived.OpenShut
import Derived.Stop.LaidErr
import Derived.Lib.LaidTab
import Derived.Lib.LaidU8
import Derived.Lay
import Derived.LaidLaws
import Derived.LaidHandle
import Derived.Stop.Joined
import Derived.Deep.DeepHandedRow
import Derived.Test.YtfifbnopgpffkaaGreatDoorCards
import Derived.Test.YtfifbnopgpffkaaGreatDoorTie
import Derived.Test.YtfifbnopgpffkaaGreatDoorPlnZ
import Derived.Lib.SmallJoins
import Derived.Deep.SlicePairs
import Derived.Deep.Strs
set_option linter.unusedSimpArgs false
set_option linter.unusedVariables false
namespace Go.Proofs.YtfifbnopgpffkaaGreatDoor.Fw
open Go.ChangeShapes Go.WideShapes Go.ChangeAt Go.RowKit

/-- The listed variables that hold plain data. -/
abbrev laidF : List (String × DataW Unit) := [("math/bits.deBruijn32tab", Rows.laid_math_bits_deBruijn32tab), ("math/bits.deBruijn64tab", Rows.laid_math_bits_deBruijn64tab), ("internal/strconv.uint64pow10", Rows.laid_internal_strconv_uint64pow10), ("strconv.ErrRange", Rows.laid_strconv_ErrRange), ("strconv.ErrSyntax", Rows.laid_strconv_ErrSyntax), ("foreman/flow.verbs", Rows.laid_foreman_flow_verbs), ("foreman/flow.kinds", Rows.laid_foreman_flow_kinds), ("foreman/flow.marks", Rows.laid_foreman_flow_marks)]
theorem ownF : ownKnob Tryz.prog.godebug = none := by kernel_rfl
theorem starEF : "*" ++ "errors.errorString" = "*errors.errorString" := by decide
theorem rowEF (u : TypeId) (h : Tryz.prog.typeName? 3 u = some "*errors.errorString") : u = 201 :=
  typeName_ptr_named (nm := "errors.errorString") (by rw [starEF]; kernel_rfl) (by kernel_rfl) (by decide) u (by rw [starEF]; exact h)
theorem cellsStrF : Tryz.prog.cellsOf 9 = 1 := by kernel_rfl
/-- An array of texts, laid. -/
theorem strs_laid {W : World} {base : Nat} {sp : Nat → Bool} {held : Bool} {fuel n : Nat} {t : TypeId} {cs : List Value} {L : List By} {p : List MemPlace} {H : Type} {enc : TypeId × Value → H}
    (ht : Tryz.prog.underlying t = some (.array n 9)) (hct : Tryz.prog.cellsOf t = n)
    (h : DataW.trod enc Tryz.prog W base sp held fuel t cs = some (.agg (L.map fun b => .lit (.string b)), p)) : cs = L.map fun b => .string (ba b) := by
  obtain ⟨xs, m, rfl, hx, hlen, hn, hel⟩ := DataW.trod_array ht h
  simp only [Prod.mk.injEq, DataW.agg.injEq] at hx
  have hl : L.length = n := by
    have := congrArg List.length hx.1
    simp only [List.length_map] at this
    omega
  rw [hct] at hlen
  refine List.ext_getElem (by rw [List.length_map]; omega) fun i h1 h2 => ?_
  have hi : i < n := by omega
  have := hel i hi
  rw [cellsStrF, Nat.mul_one, List.getElem?_eq_getElem (by omega)] at this
  obtain ⟨s, a, b, -⟩ := DataW.trod_string Tryz.underlying9 this
  have e1 : cs[i] = .string s := by
    have q : ((cs.drop i).take 1)[0]? = some (.string s) := by rw [a]; rfl
    rw [List.getElem?_take, if_pos (by decide), List.getElem?_drop, Nat.add_zero, List.getElem?_eq_getElem h1] at q
    exact Option.some.inj q
  have e2 : (L.map fun b => (DataW.lit (.string b) : DataW H))[i]? = some (.lit (.string s.data.toList)) := by
    rw [hx.1, List.getElem?_map, List.getElem?_eq_getElem (by omega), b]
    rfl
  rw [List.getElem?_map, List.getElem?_eq_getElem (by omega)] at e2
  simp only [Option.map_some, Option.some.injEq, DataW.lit.injEq, Lit.string.injEq] at e2
  rw [e1, List.getElem_map, e2]
theorem cells_at {W : World} {g : Nat} {nm : String} {cs : Array Value} {L : List By} (hg : Tryz.prog.globalNamed nm = some g) (hv : W.var? Tryz.prog nm = some cs) (h : cs.toList = L.map fun b => .string (ba b)) (j : Nat) (hj : j < L.length) : W.cell? ⟨g, j, none⟩ = some (.string (ba L[j])) := by
  have := World.var?_cell hg hv j
  rw [this, ← Array.getElem?_toList, h, List.getElem?_map, List.getElem?_eq_getElem hj]
  rfl
theorem gMarks : Tryz.prog.globalNamed "foreman/flow.marks" = some 1 := by kernel_rfl
theorem tMarks : (Tryz.prog.globals[1]?).map (·.type) = some 138 := by kernel_rfl
theorem gVerbs : Tryz.prog.globalNamed "foreman/flow.verbs" = some 3 := by kernel_rfl
theorem tVerbs : (Tryz.prog.globals[3]?).map (·.type) = some 180 := by kernel_rfl
theorem gFKinds : Tryz.prog.globalNamed "foreman/flow.kinds" = some 2 := by kernel_rfl
theorem tFKinds : (Tryz.prog.globals[2]?).map (·.type) = some 169 := by kernel_rfl
theorem gPowF : Tryz.prog.globalNamed "internal/strconv.uint64pow10" = some 7 := by kernel_rfl
theorem tPowF : (Tryz.prog.globals[7]?).map (·.type) = some 211 := by kernel_rfl
theorem marks_lay : (Rows.laid_foreman_flow_marks : DataW Unit) = .agg (marksL.map fun b => .lit (.string b)) := rfl
theorem verbs_lay : (Rows.laid_foreman_flow_verbs : DataW Unit) = .agg (verbs0.map fun b => .lit (.string b)) := rfl
theorem kinds_lay : (Rows.laid_foreman_flow_kinds : DataW Unit) = .agg (kinds0.map fun b => .lit (.string b)) := rfl

set_option maxRecDepth 100000 in
theorem fenv_of {W : World} (hL : laidMet Tryz.prog laidF W) : FEnv W := by
  have hp : Lib.TabIs Tryz.prog W "internal/strconv.uint64pow10" .u64 Lib.pow10Tab := by
    obtain ⟨g, t, cs, fuel, p, hg, ht, hv, hd⟩ := Lib.laidMet.reads hL (n := "internal/strconv.uint64pow10") (d := Rows.laid_internal_strconv_uint64pow10) (.tail _ (.tail _ (.head _)))
    obtain rfl := Option.some.inj (gPowF.symm.trans hg)
    obtain rfl := Option.some.inj (tPowF.symm.trans ht)
    have e : (Rows.laid_internal_strconv_uint64pow10 : DataW Unit) = Lib.tabData .u64 Lib.pow10Tab := rfl
    rw [e] at hd
    have := Lib.cells_of_tab Tryz.underlying211 Tryz.underlying191 (by kernel_rfl) (by kernel_rfl) hd
    unfold Lib.TabIs
    rw [hv, ← this]
  have hv : ∀ (j : Nat) (h : j < verbs0.length), W.cell? ⟨3, j, none⟩ = some (.string (ba verbs0[j])) := by
    obtain ⟨g, t, cs, fuel, p, hg, ht, hv, hd⟩ := Lib.laidMet.reads hL (n := "foreman/flow.verbs") (d := Rows.laid_foreman_flow_verbs) (.tail _ (.tail _ (.tail _ (.tail _ (.tail _ (.head _))))))
    obtain rfl := Option.some.inj (gVerbs.symm.trans hg)
    obtain rfl := Option.some.inj (tVerbs.symm.trans ht)
    rw [verbs_lay] at hd
    exact cells_at hg hv (strs_laid Tryz.underlying180 (by kernel_rfl) hd)
  have hk : ∀ (j : Nat) (h : j < kinds0.length), W.cell? ⟨2, j, none⟩ = some (.string (ba kinds0[j])) := by
    obtain ⟨g, t, cs, fuel, p, hg, ht, hv, hd⟩ := Lib.laidMet.reads hL (n := "foreman/flow.kinds") (d := Rows.laid_foreman_flow_kinds) (.tail _ (.tail _ (.tail _ (.tail _ (.tail _ (.tail _ (.head _)))))))
    obtain rfl := Option.some.inj (gFKinds.symm.trans hg)
    obtain rfl := Option.some.inj (tFKinds.symm.trans ht)
    rw [kinds_lay] at hd
    exact cells_at hg hv (strs_laid Tryz.underlying169 (by kernel_rfl) hd)
  have hm : ∀ (j : Nat) (h : j < marksL.length), W.cell? ⟨1, j, none⟩ = some (.string (ba marksL[j])) := by
    obtain ⟨g, t, cs, fuel, p, hg, ht, hv, hd⟩ := Lib.laidMet.reads hL (n := "foreman/flow.marks") (d := Rows.laid_foreman_flow_marks) (.tail _ (.tail _ (.tail _ (.tail _ (.tail _ (.tail _ (.tail _ (.head _))))))))
    obtain rfl := Option.some.inj (gMarks.symm.trans hg)
    obtain rfl := Option.some.inj (tMarks.symm.trans ht)
    rw [marks_lay] at hd
    exact cells_at hg hv (strs_laid Tryz.underlying138 (by kernel_rfl) hd)
  obtain ⟨aR, tR, hvR, hcR, -, -⟩ := laid_sentinel (g := 6) hL.tail.tail.tail (by kernel_rfl) (by kernel_rfl) Tryz.underlying32 rowEF Tryz.underlying201 Tryz.underlying203 rfl rfl Tryz.underlying9 (by kernel_rfl) (by kernel_rfl)
  obtain ⟨aS, tS, hvS, hcS, -, -⟩ := laid_sentinel (g := 5) hL.tail.tail.tail.tail (by kernel_rfl) (by kernel_rfl) Tryz.underlying32 rowEF Tryz.underlying201 Tryz.underlying203 rfl rfl Tryz.underlying9 (by kernel_rfl) (by kernel_rfl)
  refine ⟨?_, hm, hv, hk, ⟨_, _, hvS⟩, ⟨_, _, hvR⟩, hp⟩
  intro g hg
  have lt : ∀ (g i : Nat) (v : Value), W.cell? ⟨g, i, none⟩ = some v → g < W.heap.size := fun g i v h => World.block_lt_of_cell? W ⟨g, i, none⟩ h
  simp only [flowVars, List.mem_cons, List.not_mem_nil, or_false] at hg
  rcases hg with rfl | rfl | rfl | rfl | rfl | rfl
  · exact lt _ _ _ (hm 0 (by decide))
  · exact lt _ _ _ (hv 0 (by decide))
  · exact lt _ _ _ (hk 0 (by decide))
  · exact lt _ 0 _ ((World.var?_cell (by kernel_rfl) hvS 0).trans rfl)
  · exact lt _ 0 _ ((World.var?_cell (by kernel_rfl) hvR 0).trans rfl)
  · exact lt _ 0 _ ((World.var?_cell gPowF hp 0).trans rfl)
theorem et : Tryz.prog.globalNamed "errors.errorType" = some 0 := by kernel_rfl
theorem rt : (Tryz.prog.cutTypes.find? (·.1 == "internal/reflectlite.rtype")).map (·.2) = some 147 := by kernel_rfl
theorem tsize : Tryz.prog.types.size = 244 := by kernel_rfl
theorem oneRow : ((List.range 244).filter fun t => Tryz.prog.rowNamed t [101, 114, 114, 111, 114]) = [32] := by kernel_rfl
/-- What the listed variable gives. -/
theorem handle_of {l : List (String × DataW Unit)} {W : World} (hm0 : ("errors.errorType", Rows.laid_errors_errorType) ∈ l) (h : handlesMet Tryz.prog l W) : W.cell? ⟨0, 0, none⟩ = some (.iface 147 (.agg #[.pointer (some ⟨10, 32, none⟩)])) := by
  obtain ⟨name, u, ty, e1, e2, e3, e4, e5⟩ := h _ hm0
  have en : name = [101, 114, 114, 111, 114] := (Option.some.inj e1).symm
  subst en
  obtain rfl := Option.some.inj (rt.symm.trans e2)
  have hm : ty ∈ (List.range 244).filter fun t => Tryz.prog.rowNamed t [101, 114, 114, 111, 114] := List.mem_filter.2 ⟨List.mem_range.2 (by rw [← tsize]; exact e3), e4⟩
  rw [oneRow] at hm
  obtain rfl := List.mem_singleton.1 hm
  have hh : typeHandle Tryz.prog 32 = .pointer (some ⟨10, 32, none⟩) := by kernel_rfl
  rw [hh] at e5
  simpa using World.var?_cell et e5 0
end Go.Proofs.YtfifbnopgpffkaaGreatDoor.Fw

namespace Go.Proofs.YtfifbnopgpffkaaGreatDoor
open Go.ChangeShapes Go.WideShapes Go.ChangeAt Go.RowKit Go.Joins Go.Deep

set_option maxRecDepth 100000 in
theorem contractPMore (H : Type) (enc : TypeId × Value → H) (W : World) (base : Nat) (args : Array Value) (ds gs : List (DataW H)) (before : List MemPlace)
    (hval : ∀ (j : Nat) t v, Tryz.f4.params[j]? = some t → args[j]? = some v → Value.okWide Tryz.prog W .any base t v)
    (hW : DataW.Whole enc Tryz.prog Tryz.f4.params.toList Rows.planMoreSpec.vars false W args.toList ds gs before) (hL : laidMetH Tryz.prog Rows.planMoreRow.laid W) :
    Calls Tryz.prog 4 args W fun e W' => ∃ v, e = .returned v ∧ Rows.planMoreSpec.post enc Tryz.prog Tryz.f4 false true false false W args v W' := by
  have hW' := hW
  obtain ⟨p, q, hA0, hV, rfl, hfz, hnd⟩ := hW
  have hA : DataW.TrodAll enc Tryz.prog W 0 (fun _ => true) true Tryz.f4.params.toList args.toList ds p := hA0
  rw [Tryz.params4] at hA hval
  obtain ⟨v0, v1, d0, d1, p0, p1, rfl, rfl, rfl, h0, h1⟩ := trodAll_two hA
  obtain ⟨rfl, rfl⟩ := trodVars_none hV
  have k0 := hval 0 9 v0 rfl rfl
  obtain ⟨s, rfl⟩ := okWide_string Tryz.underlying9 k0
  obtain ⟨s2, rfl⟩ := okWide_string Tryz.underlying9 (hval 1 9 v1 rfl rfl)
  obtain ⟨n0, g0⟩ := h0
  obtain ⟨n1, g1⟩ := h1
  obtain ⟨s', e1, hx1, hsl⟩ := DataW.trod_string Tryz.underlying9 g0
  obtain rfl : s = s' := by simpa [Value.cells] using e1
  obtain ⟨s2', e2, hx2, hsl2⟩ := DataW.trod_string Tryz.underlying9 g1
  obtain rfl : s2 = s2' := by simpa [Value.cells] using e2
  have hL' : laidMet Tryz.prog Fw.laidF W ∧ handlesMet Tryz.prog [("errors.errorType", Rows.laid_errors_errorType)] W := hL
  clear hA0
  have hba : Fw.ba s.data.toList = s := by cases s; simp [Fw.ba]
  have hba2 : Fw.ba s2.data.toList = s2 := by cases s2; simp [Fw.ba]
  have hcall := Pl.moreP_any s.data.toList s2.data.toList W (Fw.fenv_of hL'.1) (Fw.handle_of (List.mem_singleton.2 rfl) hL'.2) (by rw [hba]; exact hsl) (by rw [hba2]; exact hsl2)
  rw [hba, hba2] at hcall
  refine hcall.mono fun e W' ⟨he, hbl⟩ => ?_
  subst he
  refine ⟨_, rfl, _, _, _, [], p0 ++ p1, [], hW', trodAll_mk1 (shut_bool Tryz.underlying4 _), ?_, rfl, hbl.frame _, fun h => by cases h⟩
  have lo : laidOutB Tryz.prog = true := by kernel_rfl
  exact trodAll_mk2 (Below.trod lo (by kernel_rfl) (of_decide_eq_true (by kernel_rfl)) ⟨n0, g0⟩ hbl (DataW.trod_lt n0 _ _ _ g0)) (Below.trod lo (by kernel_rfl) (of_decide_eq_true (by kernel_rfl)) ⟨n1, g1⟩ hbl (DataW.trod_lt n1 _ _ _ g1))

set_option maxRecDepth 100000 in
theorem liftedPMore (os : Os) (started : os.Started) (H : Type) (enc : TypeId × Value → H) (F : Stop.Interp) :
    ReturnsInHanded {} Tryz.checked os 4 .any ((OpenSpec.ofChange Rows.planMoreSpec).preRow enc Tryz.prog Tryz.f4 Rows.planMoreRow.domain false Rows.planMoreRow.laid) (((OpenSpec.ofChange Rows.planMoreSpec).at F).post enc Tryz.prog Tryz.f4 false true false false) := by
  refine returnsInHanded_of_row (C := Tryz.checked) (s := OpenSpec.ofChange Rows.planMoreSpec) Fw.ownF started (by kernel_rfl) Tryz.func4
    (ChangeSpec.witness_shaped (enc := enc) (C := Tryz.checked) (os := os) (fn := Tryz.f4) (s := Rows.planMoreSpec) (conds := Rows.planMoreRow.domain) (apart := false) (X := fun w _ => laidMetH Tryz.prog Rows.planMoreRow.laid w) false
      { World.laidAll Tryz.prog os Fw.laidF with heap := (World.laidAll Tryz.prog os Fw.laidF).heap.modify 0 fun
        | .cells _ t frozen => .cells #[.iface 147 (.agg #[.pointer (some ⟨10, 32, none⟩)])] t frozen
        | o => o } #[.string ⟨#[]⟩, .string ⟨#[]⟩] 8 (World.laidAll_os _ _ _)
      (World.shaped_of_ZipB (by kernel_rfl) (by kernel_rfl)) (by kernel_rfl) (by kernel_rfl) (by kernel_rfl)
      (laidMetH_of_parts (laidMet_of_run' 8 (by kernel_rfl) (by kernel_rfl)) (by kernel_rfl))) ?_
  intro W base args ds gs before hval hW _ _ _ hL hsh _
  exact contractPMore H enc W base args ds gs before hval hW hL

theorem saidPMore : Rows.PlanMoreSaid :=
  OpenClaim.holds_of_cond 4 Tryz.f4 rfl rfl rfl rfl rfl rfl rfl ⟨rfl, rfl, rfl, rfl, rfl⟩ rfl rfl rfl rfl rfl (by kernel_rfl) Tryz.func4 (by kernel_rfl)
    (of_decide_eq_true (by kernel_rfl)) (by unfold Func.isWrapper; first | (rw [if_pos (by decide +kernel)]; kernel_rfl) | (rw [if_neg (by decide +kernel)]; exact ⟨rfl, rfl⟩))
    (fun os started H enc _ F => by rw [OpenClaim.pre_eq_preRow]; exact liftedPMore os started H enc F)

theorem plainPMore (f : FuncId) (fn : Func) (hf : Tryz.pinned.checked.prog.funcNamed "foreman/foremankeep.PlanMore" = some f) (hfn : Tryz.pinned.checked.prog.funcs[f]? = some fn) :
    true = Tryz.pinned.checked.prog.looks [] ∧ ∀ (j : Nat) t, fn.params[j]? = some t → Tryz.pinned.checked.prog.wantsStandIn t = false := by
  obtain rfl : f = 4 := Option.some.inj ((show Tryz.prog.funcNamed "foreman/foremankeep.PlanMore" = some 4 by kernel_rfl).symm.trans hf) |>.symm
  obtain rfl : fn = Tryz.f4 := (Option.some.inj (Tryz.func4.symm.trans hfn)).symm
  refine ⟨by kernel_rfl, fun j t ht => ?_⟩
  rw [Tryz.params4] at ht
  have hm := Array.mem_of_getElem? ht
  simp only [List.mem_toArray, List.mem_cons, List.not_mem_nil, or_false] at hm
  obtain rfl : t = 9 := by simpa using hm
  exact (show Tryz.prog.wantsStandIn 9 = false by kernel_rfl)

/-- The card. -/
theorem cardPMore : Rows.PlanMoreCardSaid :=
  Claim7.holds_tied_plain_at .later [] _ _ _ _ saidPMore (fun _ h => by cases h) (by kernel_rfl) (fun _ h => by cases h) planMore_row_tie rfl ⟨rfl, rfl⟩ (by kernel_rfl) rfl plainPMore (by kernel_rfl)
end Go.Proofs.YtfifbnopgpffkaaGreatDoor

