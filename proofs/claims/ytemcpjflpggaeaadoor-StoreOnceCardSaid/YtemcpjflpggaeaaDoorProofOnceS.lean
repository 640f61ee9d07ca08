/-
  One text is one record: what is put again takes no room, and is known by the same key; what has another sum than all that was put is not there; an open store is as the one that wrote it: foremankeep.StoreOnce returns true at every input, whatever memory and schedule, and its arguments read as they did. Its conditions: the listed package-level variables start as the program's text lays them (the tied card); nothing is narrowed besides.
-/
import Derived.Test.YtemcpjflpggaeaaDoorCards
import Derived.Test.YtemcpjflpggaeaaDoorTie
import Derived.Test.YtemcpjflpggaeaaDoorStoT
import Derived.Test.YtemcpjflpggaeaaDoorDskL
import Derived.Lib.LaidTab
import Derived.Lib.LaidU8
set_option linter.unusedSimpArgs false
set_option linter.unusedVariables false
namespace Go.Proofs.YtemcpjflpggaeaaDoor
open Go.ChangeShapes Go.WideShapes Go.ChangeAt Go.RowKit Go.Joins Go.Deep Dk

theorem gRound : Tryd.prog.globalNamed "foreman/sum.roundNumbers" = some 1 := by kernel_rfl
theorem tRound : (Tryd.prog.globals[1]?).map (·.type) = some 135 := by kernel_rfl
def roundInts : List Int := kList.map U
theorem round_lay : (Rows.laid_foreman_sum_roundNumbers : DataW Unit) = Lib.tabData .u32 roundInts := rfl
set_option maxRecDepth 100000 in
theorem envK_of {W : World} (hL : laidMet Tryd.prog [("foreman/sum.roundNumbers", Rows.laid_foreman_sum_roundNumbers)] W) : EnvK W := by
  have hp : Lib.TabIs Tryd.prog W "foreman/sum.roundNumbers" .u32 roundInts := by
    obtain ⟨g, t, cs, fuel, p, hg, ht, hv, hd⟩ := Lib.laidMet.reads hL (n := "foreman/sum.roundNumbers") (d := Rows.laid_foreman_sum_roundNumbers) (.head _)
    obtain rfl := Option.some.inj (gRound.symm.trans hg)
    obtain rfl := Option.some.inj (tRound.symm.trans ht)
    rw [round_lay] at hd
    have := Lib.cells_of_tab Tryd.underlying135 Tryd.underlying96 (by kernel_rfl) (by kernel_rfl) hd
    unfold Lib.TabIs
    rw [hv, ← this]
  intro j hj
  have := hp.cell gRound j (by show j < (kList.map U).length; rw [List.length_map]; exact hj)
  rw [this, roundInts, List.getD_eq_getElem?_getD, List.getElem?_map, List.getElem?_eq_getElem (show j < kList.length from hj)]
  rfl
set_option maxRecDepth 100000 in
theorem contractOnce (H : Type) (enc : TypeId × Value → H) (W : World) (base : Nat) (args : Array Value) (ds gs : List (DataW H)) (before : List MemPlace)
    (hval : ∀ (j : Nat) t v, Tryd.f4.params[j]? = some t → args[j]? = some v → Value.okWide Tryd.prog W .any base t v)
    (hW : DataW.Whole enc Tryd.prog Tryd.f4.params.toList Rows.storeOnceSpec.vars false W args.toList ds gs before) (hL : laidMetH Tryd.prog Rows.storeOnceRow.laid W) (hsh : W.ShapedOpen Tryd.prog) :
    Calls Tryd.prog 4 args W fun e W' => ∃ v, e = .returned v ∧ Rows.storeOnceSpec.post enc Tryd.prog Tryd.f4 false true false false W args v W' := by
  have hW' := hW
  obtain ⟨p, q, hA0, hV, rfl, hfz, hnd⟩ := hW
  have hA : DataW.TrodAll enc Tryd.prog W 0 (fun _ => true) true Tryd.f4.params.toList args.toList ds p := hA0
  rw [Tryd.params4] at hA hval
  obtain ⟨v0, v1, d0, d1, p0, p1, rfl, rfl, rfl, h0, h1⟩ := trodAll_two hA
  obtain ⟨rfl, rfl⟩ := trodVars_none hV
  obtain ⟨s0, l0, r0, rfl⟩ := okWide_slice Tryd.underlying22 (hval 0 22 v0 rfl rfl)
  have k1 := hval 1 9 v1 rfl rfl
  obtain ⟨s, rfl⟩ := okWide_string Tryd.underlying9 k1
  obtain ⟨n0, g0⟩ := h0
  obtain ⟨n1, g1⟩ := h1
  obtain ⟨s', e1, hx1, hsl⟩ := DataW.trod_string Tryd.underlying9 g1
  obtain rfl : s = s' := by simpa [Value.cells] using e1
  obtain ⟨l, hl, hls⟩ := open_strs' (show DataW.trod enc Tryd.prog W 0 (fun _ => true) true n0 22 [.slice s0 l0 r0] = _ from g0)
  have hL' : laidMet Tryd.prog [("foreman/sum.roundNumbers", Rows.laid_foreman_sum_roundNumbers)] W ∧ handlesMet Tryd.prog [("errors.errorType", Rows.laid_errors_errorType)] W := hL
  clear hA0
  refine (once_any _ s l W hl hls hsl (envK_of hL'.1) (handle_of (List.mem_singleton.2 rfl) hL'.2)).mono fun e W' ⟨he, hbl⟩ => ?_
  subst he
  refine ⟨_, rfl, _, _, _, [], p0 ++ p1, [], hW', trodAll_mk1 (shut_bool Tryd.underlying4 _), ?_, rfl, hbl.frame _, fun h => by cases h⟩
  have lo : laidOutB Tryd.prog = true := by kernel_rfl
  exact trodAll_mk2 (Below.trod lo (by kernel_rfl) (of_decide_eq_true (by kernel_rfl)) ⟨n0, g0⟩ hbl (DataW.trod_lt n0 _ _ _ g0)) (Below.trod lo (by kernel_rfl) (of_decide_eq_true (by kernel_rfl)) ⟨n1, g1⟩ hbl (DataW.trod_lt n1 _ _ _ g1))

/-- The witness' arguments: a list of nothing, and no text. -/
def zeroArgs : Array Value := #[.slice none 0 0, .string ⟨#[]⟩]

set_option maxRecDepth 100000 in
theorem liftedOnce (os : Os) (started : os.Started) (H : Type) (enc : TypeId × Value → H) (F : Stop.Interp) :
    ReturnsInHanded {} Tryd.checked os 4 .any ((OpenSpec.ofChange Rows.storeOnceSpec).preRow enc Tryd.prog Tryd.f4 Rows.storeOnceRow.domain false Rows.storeOnceRow.laid) (((OpenSpec.ofChange Rows.storeOnceSpec).at F).post enc Tryd.prog Tryd.f4 false true false false) := by
  refine returnsInHanded_of_row (C := Tryd.checked) (s := OpenSpec.ofChange Rows.storeOnceSpec) own started (by kernel_rfl) Tryd.func4
    (ChangeSpec.witness_shaped (enc := enc) (C := Tryd.checked) (os := os) (fn := Tryd.f4) (s := Rows.storeOnceSpec) (conds := Rows.storeOnceRow.domain) (apart := false) (X := fun w _ => laidMetH Tryd.prog Rows.storeOnceRow.laid w) false
      { World.laidAll Tryd.prog os [("foreman/sum.roundNumbers", Rows.laid_foreman_sum_roundNumbers)] with heap := (World.laidAll Tryd.prog os [("foreman/sum.roundNumbers", Rows.laid_foreman_sum_roundNumbers)]).heap.modify 0 fun
        | .cells _ t frozen => .cells #[.iface 139 (.agg #[.pointer (some ⟨5, 30, none⟩)])] t frozen
        | o => o } zeroArgs 8 (World.laidAll_os _ _ _)
      (World.shaped_of_ZipB (by kernel_rfl) (by kernel_rfl)) (by kernel_rfl) (by kernel_rfl) (by kernel_rfl)
      (laidMetH_of_parts (laidMet_of_run' 8 (by kernel_rfl) (by kernel_rfl)) (by kernel_rfl))) ?_
  intro W base args ds gs before hval hW _ _ _ hL hsh _
  exact contractOnce H enc W base args ds gs before hval hW hL hsh

theorem saidOnce : Rows.StoreOnceSaid :=
  OpenClaim.holds_of_cond 4 Tryd.f4 rfl rfl rfl rfl rfl rfl rfl ⟨rfl, rfl, rfl, rfl, rfl⟩ rfl rfl rfl rfl rfl (by kernel_rfl) Tryd.func4 (by kernel_rfl)
    (of_decide_eq_true (by kernel_rfl)) (by unfold Func.isWrapper; first | (rw [if_pos (by decide +kernel)]; kernel_rfl) | (rw [if_neg (by decide +kernel)]; exact ⟨rfl, rfl⟩))
    (fun os started H enc _ F => by rw [OpenClaim.pre_eq_preRow]; exact liftedOnce os started H enc F)

theorem plainOnce (f : FuncId) (fn : Func) (hf : Tryd.pinned.checked.prog.funcNamed "foreman/foremankeep.StoreOnce" = some f) (hfn : Tryd.pinned.checked.prog.funcs[f]? = some fn) :
    true = Tryd.pinned.checked.prog.looks [] ∧ ∀ (j : Nat) t, fn.params[j]? = some t → Tryd.pinned.checked.prog.wantsStandIn t = false := by
  obtain rfl : f = 4 := Option.some.inj ((show Tryd.prog.funcNamed "foreman/foremankeep.StoreOnce" = some 4 by kernel_rfl).symm.trans hf) |>.symm
  obtain rfl : fn = Tryd.f4 := (Option.some.inj (Tryd.func4.symm.trans hfn)).symm
  refine ⟨by kernel_rfl, fun j t ht => ?_⟩
  rw [Tryd.params4] at ht
  have hm := Array.mem_of_getElem? ht
  simp only [List.mem_toArray, List.mem_cons, List.not_mem_nil, or_false] at hm
  rcases hm with rfl | rfl
  · exact (show Tryd.prog.wantsStandIn 22 = false by kernel_rfl)
  · exact (show Tryd.prog.wantsStandIn 9 = false by kernel_rfl)

/-- The card. -/
theorem cardOnce : Rows.StoreOnceCardSaid :=
  Claim7.holds_tied_plain_at .later [] _ _ _ _ saidOnce (fun _ h => by cases h) (by kernel_rfl) (fun _ h => by cases h) storeOnce_row_tie rfl ⟨rfl, rfl⟩ (by kernel_rfl) rfl plainOnce (by kernel_rfl)
end Go.Proofs.YtemcpjflpggaeaaDoor
