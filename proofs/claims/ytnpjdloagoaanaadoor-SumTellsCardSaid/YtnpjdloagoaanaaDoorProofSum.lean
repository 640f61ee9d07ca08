/-
  The sum of any text, and how it is written, is what the document's own answer gives (FIPS 180-4, its numbers reckoned anew from roots of primes): foremanlaw.SumTells returns true at every input, whatever memory and schedule, and its argument reads as it did. Its conditions: the listed package-level variables start as the program's text lays them (the tied card); nothing is narrowed besides.
-/
import Derived.Test.YtnpjdloagoaanaaDoorCards
import Derived.Test.YtnpjdloagoaanaaDoorTie
import Derived.Test.YtnpjdloagoaanaaDoorSumR
import Derived.ProofKit
import Derived.OpenShut
import Derived.Lib.LaidTab
import Derived.Lib.LaidU8
import Derived.Lay
import Derived.Deep.DeepHandedRow
import Derived.Lib.SmallJoins
set_option linter.unusedSimpArgs false
set_option linter.unusedVariables false
namespace Go.Proofs.YtnpjdloagoaanaaDoor
open Go.ChangeShapes Go.WideShapes Go.ChangeAt Go.RowKit Go.Joins

theorem ownSum : ownKnob Tryd.prog.godebug = none := by kernel_rfl
theorem gRound : Tryd.prog.globalNamed "foreman/sum.roundNumbers" = some 1 := by kernel_rfl
theorem tRound : (Tryd.prog.globals[1]?).map (·.type) = some 56 := by kernel_rfl
theorem gZero : Tryd.prog.globalNamed "math/bits.deBruijn64tab" = some 5 := by kernel_rfl
theorem tZero : (Tryd.prog.globals[5]?).map (·.type) = some 137 := by kernel_rfl
def roundInts : List Int := kList.map U
def zeroInts : List Int := [0, 1, 56, 2, 57, 49, 28, 3, 61, 58, 42, 50, 38, 29, 17, 4, 62, 47, 59, 36, 45, 43, 51, 22, 53, 39, 33, 30, 24, 18, 12, 5, 63, 55, 48, 27, 60, 41, 37, 16, 46, 35, 44, 21, 52, 32, 23, 11, 54, 26, 40, 15, 34, 20, 31, 10, 25, 14, 19, 9, 13, 8, 7, 6]
theorem round_lay : (Rows.laid_foreman_sum_roundNumbers : DataW Unit) = Lib.tabData .u32 roundInts := rfl
theorem zero_lay : (Rows.laid_math_bits_deBruijn64tab : DataW Unit) = Lib.tabData .u8 zeroInts := rfl

set_option maxRecDepth 100000 in
theorem envK_of {W : World} (hL : laidMet Tryd.prog Rows.sumTellsRow.laid W) : EnvK W := by
  have hp : Lib.TabIs Tryd.prog W "foreman/sum.roundNumbers" .u32 roundInts := by
    obtain ⟨g, t, cs, fuel, p, hg, ht, hv, hd⟩ := Lib.laidMet.reads hL (n := "foreman/sum.roundNumbers") (d := Rows.laid_foreman_sum_roundNumbers) (.tail _ (.tail _ (.tail _ (.head _))))
    obtain rfl := Option.some.inj (gRound.symm.trans hg)
    obtain rfl := Option.some.inj (tRound.symm.trans ht)
    rw [round_lay] at hd
    have := Lib.cells_of_tab Tryd.underlying56 Tryd.underlying43 (by kernel_rfl) (by kernel_rfl) hd
    unfold Lib.TabIs
    rw [hv, ← this]
  intro j hj
  have := hp.cell gRound j (by show j < (kList.map U).length; rw [List.length_map]; exact hj)
  rw [this, roundInts, List.getD_eq_getElem?_getD, List.getElem?_map, List.getElem?_eq_getElem (show j < kList.length from hj)]
  rfl

set_option maxRecDepth 100000 in
theorem envZ_of {W : World} (hL : laidMet Tryd.prog Rows.sumTellsRow.laid W) : EnvZ W := by
  have hp : Lib.TabIs Tryd.prog W "math/bits.deBruijn64tab" .u8 zeroInts := by
    obtain ⟨g, t, cs, fuel, p, hg, ht, hv, hd⟩ := Lib.laidMet.reads hL (n := "math/bits.deBruijn64tab") (d := Rows.laid_math_bits_deBruijn64tab) (.tail _ (.head _))
    obtain rfl := Option.some.inj (gZero.symm.trans hg)
    obtain rfl := Option.some.inj (tZero.symm.trans ht)
    rw [zero_lay] at hd
    have := Lib.cells_of_tab Tryd.underlying137 Tryd.underlying5 (by kernel_rfl) (by kernel_rfl) hd
    unfold Lib.TabIs
    rw [hv, ← this]
  exact hp.cell gZero 15 (by decide)

set_option maxRecDepth 100000 in
theorem contractSum (H : Type) (enc : TypeId × Value → H) (W : World) (base : Nat) (args : Array Value) (ds gs : List (DataW H)) (before : List MemPlace)
    (hval : ∀ (j : Nat) t v, Tryd.f4.params[j]? = some t → args[j]? = some v → Value.okWide Tryd.prog W .any base t v)
    (hW : DataW.Whole enc Tryd.prog Tryd.f4.params.toList Rows.sumTellsSpec.vars false W args.toList ds gs before) (hL : laidMetH Tryd.prog Rows.sumTellsRow.laid W) :
    Calls Tryd.prog 4 args W fun e W' => ∃ v, e = .returned v ∧ Rows.sumTellsSpec.post enc Tryd.prog Tryd.f4 false true false false W args v W' := by
  have hW' := hW
  obtain ⟨p, q, hA0, hV, rfl, hfz, hnd⟩ := hW
  have hA : DataW.TrodAll enc Tryd.prog W 0 (fun _ => true) true Tryd.f4.params.toList args.toList ds p := hA0
  rw [Tryd.params4] at hA hval
  obtain ⟨v0, d0, rfl, rfl, h0⟩ := trodAll_one hA
  obtain ⟨rfl, rfl⟩ := trodVars_none hV
  have k0 := hval 0 9 v0 rfl rfl
  obtain ⟨s, rfl⟩ := okWide_string Tryd.underlying9 k0
  obtain ⟨n1, g1⟩ := h0
  obtain ⟨s', e1, hx1, hsl⟩ := DataW.trod_string Tryd.underlying9 g1
  obtain rfl : s = s' := by simpa [Value.cells] using e1
  simp only [Prod.mk.injEq] at hx1
  obtain ⟨rfl, rfl⟩ := hx1
  have hL' : laidMet Tryd.prog Rows.sumTellsRow.laid W := by rw [← MakeChecks.laidMetH_plain _ _ _ (by kernel_rfl)]; exact hL
  clear hA0
  refine (tells_any s W (envK_of hL') (envZ_of hL') hsl).mono fun e W' ⟨he, hbl⟩ => ?_
  subst he
  refine ⟨_, rfl, _, _, _, [], [], [], hW', trodAll_mk1 (shut_bool Tryd.underlying4 _), ?_, rfl, hbl.frame _, fun h => by cases h⟩
  have rd : Tryd.prog.readableRec 9 = true := by kernel_rfl
  have lo : laidOutB Tryd.prog = true := by kernel_rfl
  have lt : 9 < Tryd.prog.types.size := of_decide_eq_true (by kernel_rfl)
  exact trodAll_mk1 (Below.trod lo rd lt ⟨n1, g1⟩ hbl (by simp))

set_option maxRecDepth 100000 in
theorem liftedSum (os : Os) (started : os.Started) (H : Type) (enc : TypeId × Value → H) (F : Stop.Interp) :
    ReturnsInHanded {} Tryd.checked os 4 .any ((OpenSpec.ofChange Rows.sumTellsSpec).preRow enc Tryd.prog Tryd.f4 Rows.sumTellsRow.domain false Rows.sumTellsRow.laid) (((OpenSpec.ofChange Rows.sumTellsSpec).at F).post enc Tryd.prog Tryd.f4 false true false false) := by
  refine returnsInHanded_of_row (C := Tryd.checked) (s := OpenSpec.ofChange Rows.sumTellsSpec) ownSum started (by kernel_rfl) Tryd.func4
    (ChangeSpec.witness_shaped (enc := enc) (C := Tryd.checked) (os := os) (fn := Tryd.f4) (s := Rows.sumTellsSpec) (conds := Rows.sumTellsRow.domain) (apart := false) (X := fun w _ => laidMetH Tryd.prog Rows.sumTellsRow.laid w) false (World.laidAll Tryd.prog os Rows.sumTellsRow.laid) #[.string ⟨#[]⟩] 8 (World.laidAll_os _ _ _)
      (World.shaped_of_ZipB (by kernel_rfl) (by kernel_rfl)) (by kernel_rfl) (by kernel_rfl) (by kernel_rfl)
      (by rw [MakeChecks.laidMetH_plain _ _ _ (by kernel_rfl)]; exact laidMet_laidAll _ (by kernel_rfl) (by kernel_rfl))) ?_
  intro W base args ds gs before hval hW _ _ _ hL hsh _
  exact contractSum H enc W base args ds gs before hval hW hL

theorem saidSum : Rows.SumTellsSaid :=
  OpenClaim.holds_of_cond 4 Tryd.f4 rfl rfl rfl rfl rfl rfl rfl ⟨rfl, rfl, rfl, rfl, rfl⟩ rfl rfl rfl rfl rfl (by kernel_rfl) Tryd.func4 (by kernel_rfl)
    (of_decide_eq_true (by kernel_rfl)) (by unfold Func.isWrapper; first | (rw [if_pos (by decide +kernel)]; kernel_rfl) | (rw [if_neg (by decide +kernel)]; exact ⟨rfl, rfl⟩))
    (fun os started H enc _ F => by rw [OpenClaim.pre_eq_preRow]; exact liftedSum os started H enc F)

theorem plainSum (f : FuncId) (fn : Func) (hf : Tryd.pinned.checked.prog.funcNamed "foreman/foremanlaw.SumTells" = some f) (hfn : Tryd.pinned.checked.prog.funcs[f]? = some fn) :
    true = Tryd.pinned.checked.prog.looks [] ∧ ∀ (j : Nat) t, fn.params[j]? = some t → Tryd.pinned.checked.prog.wantsStandIn t = false := by
  obtain rfl : f = 4 := Option.some.inj ((show Tryd.prog.funcNamed "foreman/foremanlaw.SumTells" = some 4 by kernel_rfl).symm.trans hf) |>.symm
  obtain rfl : fn = Tryd.f4 := (Option.some.inj (Tryd.func4.symm.trans hfn)).symm
  refine ⟨by kernel_rfl, fun j t ht => ?_⟩
  rw [Tryd.params4] at ht
  obtain rfl : t = 9 := by simpa using Array.mem_of_getElem? ht
  exact (show Tryd.prog.wantsStandIn 9 = false by kernel_rfl)

/-- The card. -/
theorem cardSum : Rows.SumTellsCardSaid :=
  Claim7.holds_tied_plain_at .later [] _ _ _ _ saidSum (fun _ h => by cases h) (by kernel_rfl) (fun _ h => by cases h) sumTells_row_tie rfl ⟨rfl, rfl⟩ (by kernel_rfl) rfl plainSum (by kernel_rfl)
end Go.Proofs.YtnpjdloagoaanaaDoor
