/-
  What was put is there: whatever records are put, by however few writes are done yet, and whatever is lost then, all that were told to be put are there, in order, behind an Open; each has its sum: foremankeep.StoreHolds returns true at every input, whatever memory and schedule, and its arguments read as they did. Its conditions: the listed package-level variables start as the program's text lays them (the tied card); nothing is narrowed besides.
-/
import Derived.Test.YtemakgklldlbnaaDoorCards
import Derived.Test.YtemakgklldlbnaaDoorTie
import Derived.Test.YtemakgklldlbnaaDoorStoP
import Derived.Test.YtemakgklldlbnaaDoorDskL
import Derived.Lib.LaidTab
import Derived.Lib.LaidU8
set_option linter.unusedSimpArgs false
set_option linter.unusedVariables false
namespace Go.Proofs.YtemakgklldlbnaaDoor
open Go.ChangeShapes Go.WideShapes Go.ChangeAt Go.RowKit Go.Joins Go.Deep Dk

theorem gRound : Tryd.prog.globalNamed "foreman/sum.roundNumbers" = some 1 := by kernel_rfl
theorem tRound : (Tryd.prog.globals[1]?).map (·.type) = some 135 := by kernel_rfl
def roundInts : List Int := kList.map U
theorem round_lay : (Rows.laid_foreman_sum_roundNumbers : DataW Unit) = Lib.tabData .u32 roundInts := rfl
set_option maxRecDepth 100000 in
theorem envK_of {W : World} (hL : laidMet Tryd.prog [("foreman/sum.roundNumbers", Rows.laid_foreman_sum_roundNumbers)] W) : EnvK W := by
  have hp : Lib.TabIs Tryd.prog W "foreman/sum.roundNumbers" .u32 roundInts := by
    obtain ⟨g, t, cs, fuel, p, hg, ht, hv, hd⟩ := Lib.laidMet.reads hL (n := "foreman/sum.roundNumbers") (d := Rows.laid_foreman_sum_roundNumbers) (.head _)
    obtain rfl := Option.some.inj (gRound.symm.trans hg)
    obtain rfl := Option.some.inj (tRound.symm.trans ht)
    rw [round_lay] at hd
    have := Lib.cells_of_tab Tryd.underlying135 Tryd.underlying96 (by kernel_rfl) (by kernel_rfl) hd
    unfold Lib.TabIs
    rw [hv, ← this]
  intro j hj
  have := hp.cell gRound j (by show j < (kList.map U).length; rw [List.length_map]; exact hj)
  rw [this, roundInts, List.getD_eq_getElem?_getD, List.getElem?_map, List.getElem?_eq_getElem (show j < kList.length from hj)]
  rfl
set_option maxRecDepth 100000 in
theorem contractHolds (H : Type) (enc : TypeId × Value → H) (W : World) (base : Nat) (args : Array Value) (ds gs : List (DataW H)) (before : List MemPlace)
    (hval : ∀ (j : Nat) t v, Tryd.f5.params[j]? = some t → args[j]? = some v → Value.okWide Tryd.prog W .any base t v)
    (hW : DataW.Whole enc Tryd.prog Tryd.f5.params.toList Rows.storeHoldsSpec.vars false W args.toList ds gs before) (hL : laidMetH Tryd.prog Rows.storeHoldsRow.laid W) (hsh : W.ShapedOpen Tryd.prog) :
    Calls Tryd.prog 5 args W fun e W' => ∃ v, e = .returned v ∧ Rows.storeHoldsSpec.post enc Tryd.prog Tryd.f5 false true false false W args v W' := by
  have hW' := hW
  obtain ⟨p, q, hA0, hV, rfl, hfz, hnd⟩ := hW
  have hA : DataW.TrodAll enc Tryd.prog W 0 (fun _ => true) true Tryd.f5.params.toList args.toList ds p := hA0
  rw [Tryd.params5] at hA hval
  obtain ⟨v0, v1, v2, d0, d1, d2, p0, p1, p2, rfl, rfl, rfl, h0, h1, h2⟩ := trodAll_three hA
  obtain ⟨rfl, rfl⟩ := trodVars_none hV
  obtain ⟨s0, l0, r0, rfl⟩ := okWide_slice Tryd.underlying22 (hval 0 22 v0 rfl rfl)
  obtain ⟨fz, rfl⟩ := okWide_int Tryd.underlying3 (hval 1 3 v1 rfl rfl)
  obtain ⟨s2, l2, r2, rfl⟩ := okWide_slice Tryd.underlying24 (hval 2 24 v2 rfl rfl)
  obtain ⟨n0, g0⟩ := h0
  obtain ⟨n1, g1⟩ := h1
  obtain ⟨n2, g2⟩ := h2
  obtain ⟨l, hl, hls⟩ := open_strs' (show DataW.trod enc Tryd.prog W 0 (fun _ => true) true n0 22 [.slice s0 l0 r0] = _ from g0)
  obtain ⟨ks, hks, -⟩ := open_bools' (show DataW.trod enc Tryd.prog W 0 (fun _ => true) true n2 24 [.slice s2 l2 r2] = _ from g2)
  have hL' : laidMet Tryd.prog [("foreman/sum.roundNumbers", Rows.laid_foreman_sum_roundNumbers)] W ∧ handlesMet Tryd.prog [("errors.errorType", Rows.laid_errors_errorType)] W := hL
  clear hA0
  refine (holds_any _ _ fz l ks W hl hks hls (envK_of hL'.1) (handle_of (List.mem_singleton.2 rfl) hL'.2)).mono fun e W' ⟨he, hbl⟩ => ?_
  subst he
  refine ⟨_, rfl, _, _, _, [], p0 ++ (p1 ++ p2), [], hW', trodAll_mk1 (shut_bool Tryd.underlying4 _), ?_, rfl, hbl.frame _, fun h => by cases h⟩
  have lo : laidOutB Tryd.prog = true := by kernel_rfl
  exact trodAll_mk3 (Below.trod lo (by kernel_rfl) (of_decide_eq_true (by kernel_rfl)) ⟨n0, g0⟩ hbl (DataW.trod_lt n0 _ _ _ g0)) (Below.trod lo (by kernel_rfl) (of_decide_eq_true (by kernel_rfl)) ⟨n1, g1⟩ hbl (DataW.trod_lt n1 _ _ _ g1)) (Below.trod lo (by kernel_rfl) (of_decide_eq_true (by kernel_rfl)) ⟨n2, g2⟩ hbl (DataW.trod_lt n2 _ _ _ g2))

/-- The witness' arguments: lists of nothing, and 0. -/
def zeroArgs : Array Value := #[.slice none 0 0, .int .i64 0, .slice none 0 0]

set_option maxRecDepth 100000 in
theorem liftedHolds (os : Os) (started : os.Started) (H : Type) (enc : TypeId × Value → H) (F : Stop.Interp) :
    ReturnsInHanded {} Tryd.checked os 5 .any ((OpenSpec.ofChange Rows.storeHoldsSpec).preRow enc Tryd.prog Tryd.f5 Rows.storeHoldsRow.domain false Rows.storeHoldsRow.laid) (((OpenSpec.ofChange Rows.storeHoldsSpec).at F).post enc Tryd.prog Tryd.f5 false true false false) := by
  refine returnsInHanded_of_row (C := Tryd.checked) (s := OpenSpec.ofChange Rows.storeHoldsSpec) own started (by kernel_rfl) Tryd.func5
    (ChangeSpec.witness_shaped (enc := enc) (C := Tryd.checked) (os := os) (fn := Tryd.f5) (s := Rows.storeHoldsSpec) (conds := Rows.storeHoldsRow.domain) (apart := false) (X := fun w _ => laidMetH Tryd.prog Rows.storeHoldsRow.laid w) false
      { World.laidAll Tryd.prog os [("foreman/sum.roundNumbers", Rows.laid_foreman_sum_roundNumbers)] with heap := (World.laidAll Tryd.prog os [("foreman/sum.roundNumbers", Rows.laid_foreman_sum_roundNumbers)]).heap.modify 0 fun
        | .cells _ t frozen => .cells #[.iface 139 (.agg #[.pointer (some ⟨5, 30, none⟩)])] t frozen
        | o => o } zeroArgs 8 (World.laidAll_os _ _ _)
      (World.shaped_of_ZipB (by kernel_rfl) (by kernel_rfl)) (by kernel_rfl) (by kernel_rfl) (by kernel_rfl)
      (laidMetH_of_parts (laidMet_of_run' 8 (by kernel_rfl) (by kernel_rfl)) (by kernel_rfl))) ?_
  intro W base args ds gs before hval hW _ _ _ hL hsh _
  exact contractHolds H enc W base args ds gs before hval hW hL hsh

theorem saidHolds : Rows.StoreHoldsSaid :=
  OpenClaim.holds_of_cond 5 Tryd.f5 rfl rfl rfl rfl rfl rfl rfl ⟨rfl, rfl, rfl, rfl, rfl⟩ rfl rfl rfl rfl rfl (by kernel_rfl) Tryd.func5 (by kernel_rfl)
    (of_decide_eq_true (by kernel_rfl)) (by unfold Func.isWrapper; first | (rw [if_pos (by decide +kernel)]; kernel_rfl) | (rw [if_neg (by decide +kernel)]; exact ⟨rfl, rfl⟩))
    (fun os started H enc _ F => by rw [OpenClaim.pre_eq_preRow]; exact liftedHolds os started H enc F)

theorem plainHolds (f : FuncId) (fn : Func) (hf : Tryd.pinned.checked.prog.funcNamed "foreman/foremankeep.StoreHolds" = some f) (hfn : Tryd.pinned.checked.prog.funcs[f]? = some fn) :
    true = Tryd.pinned.checked.prog.looks [] ∧ ∀ (j : Nat) t, fn.params[j]? = some t → Tryd.pinned.checked.prog.wantsStandIn t = false := by
  obtain rfl : f = 5 := Option.some.inj ((show Tryd.prog.funcNamed "foreman/foremankeep.StoreHolds" = some 5 by kernel_rfl).symm.trans hf) |>.symm
  obtain rfl : fn = Tryd.f5 := (Option.some.inj (Tryd.func5.symm.trans hfn)).symm
  refine ⟨by kernel_rfl, fun j t ht => ?_⟩
  rw [Tryd.params5] at ht
  have hm := Array.mem_of_getElem? ht
  simp only [List.mem_toArray, List.mem_cons, List.not_mem_nil, or_false] at hm
  rcases hm with rfl | rfl | rfl
  · exact (show Tryd.prog.wantsStandIn 22 = false by kernel_rfl)
  · exact (show Tryd.prog.wantsStandIn 3 = false by kernel_rfl)
  · exact (show Tryd.prog.wantsStandIn 24 = false by kernel_rfl)

/-- The card. -/
theorem cardHolds : Rows.StoreHoldsCardSaid :=
  Claim7.holds_tied_plain_at .later [] _ _ _ _ saidHolds (fun _ h => by cases h) (by kernel_rfl) (fun _ h => by cases h) storeHolds_row_tie rfl ⟨rfl, rfl⟩ (by kernel_rfl) rfl plainHolds (by kernel_rfl)
end Go.Proofs.YtemakgklldlbnaaDoor
