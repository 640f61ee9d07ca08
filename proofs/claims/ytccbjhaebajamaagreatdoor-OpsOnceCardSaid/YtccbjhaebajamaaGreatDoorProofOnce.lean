/-
  A table, and itself behind it, made distinct, is as it alone; distinct again it is the same; all columns, picked, are the table: foremankeep.OpsOnce returns true at every input, whatever memory and schedule, and its arguments read as they did. Its conditions: the listed package-level variables start as the program's text lays them (the tied card); nothing is narrowed besides.
-/
import Derived.Test.YtccbjhaebajamaaGreatDoorCards
import Derived.Test.YtccbjhaebajamaaGreatDoorTie
import Derived.Test.YtccbjhaebajamaaGreatDoorEnvs
import Derived.Test.YtccbjhaebajamaaGreatDoorOncX
import Derived.Test.YtccbjhaebajamaaGreatDoorOpens
import Derived.Lib.SmallJoins
import Derived.ChangeMaps5
set_option linter.unusedSimpArgs false
set_option linter.unusedVariables false
namespace Go.Proofs.YtccbjhaebajamaaGreatDoor
open Go.ChangeShapes Go.WideShapes Go.ChangeAt Go.RowKit Go.Joins

theorem once_any (vc vr : Value) (cs : List Cl) (rs : List (List Vl)) (w : World) (hc : ColsIs w vc cs) (hr : RowsIs w vr rs) (hE : Env w) :
    Calls Tryz.prog 3 #[.agg #[vc, vr]] w fun e w' => e = .returned (.bool true) ∧ Below w.heap.size w w' := by
  cases hrt : rightB cs rs
  · exact once_bad vc vr cs rs w hc hr hE hrt
  · exact once_ok vc vr cs rs w hc hr hE hrt

set_option maxRecDepth 100000 in
theorem contractOnce (H : Type) (enc : TypeId × Value → H) (W : World) (base : Nat) (args : Array Value) (ds gs : List (DataW H)) (before : List MemPlace)
    (hval : ∀ (j : Nat) t v, Tryz.f3.params[j]? = some t → args[j]? = some v → Value.okWide Tryz.prog W .any base t v)
    (hW : DataW.Whole enc Tryz.prog Tryz.f3.params.toList Rows.opsOnceSpec.vars false W args.toList ds gs before) (hL : laidMetH Tryz.prog Rows.opsOnceRow.laid W) (hsh : W.ShapedOpen Tryz.prog) :
    Calls Tryz.prog 3 args W fun e W' => ∃ v, e = .returned v ∧ Rows.opsOnceSpec.post enc Tryz.prog Tryz.f3 false true false false W args v W' := by
  have hW' := hW
  obtain ⟨p, q, hA0, hV, rfl, hfz, hnd⟩ := hW
  have hA : DataW.TrodAll enc Tryz.prog W 0 (fun _ => true) true Tryz.f3.params.toList args.toList ds p := hA0
  rw [Tryz.params3] at hA hval
  obtain ⟨v0, d0, rfl, rfl, h0⟩ := trodAll_one hA
  obtain ⟨rfl, rfl⟩ := trodVars_none hV
  have k0 := hval 0 25 v0 rfl rfl
  obtain ⟨vc, vr, cs, rs, rfl, hc, hr⟩ := open_table k0 h0
  have hL' : laidMet Tryz.prog Rows.opsOnceRow.laid W := by rw [← MakeChecks.laidMetH_plain _ _ _ (by kernel_rfl)]; exact hL
  clear hA0
  refine (once_any vc vr cs rs W hc hr (env_of hL' hsh)).mono fun e W' ⟨he, hbl⟩ => ?_
  subst he
  refine ⟨_, rfl, _, _, _, [], p, [], hW', trodAll_mk1 (shut_bool Tryz.underlying4 _), ?_, rfl, hbl.frame _, fun h => by cases h⟩
  have lo : laidOutB Tryz.prog = true := by kernel_rfl
  obtain ⟨n0, g0⟩ := h0
  exact trodAll_mk1 (Below.trod lo (by kernel_rfl) (of_decide_eq_true (by kernel_rfl)) ⟨n0, g0⟩ hbl (DataW.trod_lt n0 _ _ _ g0))

/-- The witness' argument: the table of nothing. -/
def zeroArgs : Array Value := #[.agg #[.slice none 0 0, .slice none 0 0]]

set_option maxRecDepth 100000 in
theorem liftedOnce (os : Os) (started : os.Started) (H : Type) (enc : TypeId × Value → H) (F : Stop.Interp) :
    ReturnsInHanded {} Tryz.checked os 3 .any ((OpenSpec.ofChange Rows.opsOnceSpec).preRow enc Tryz.prog Tryz.f3 Rows.opsOnceRow.domain false Rows.opsOnceRow.laid) (((OpenSpec.ofChange Rows.opsOnceSpec).at F).post enc Tryz.prog Tryz.f3 false true false false) := by
  refine returnsInHanded_of_row (C := Tryz.checked) (s := OpenSpec.ofChange Rows.opsOnceSpec) own started (by kernel_rfl) Tryz.func3
    (ChangeSpec.witness_shaped (enc := enc) (C := Tryz.checked) (os := os) (fn := Tryz.f3) (s := Rows.opsOnceSpec) (conds := Rows.opsOnceRow.domain) (apart := false) (X := fun w _ => laidMetH Tryz.prog Rows.opsOnceRow.laid w) false (World.laidAll Tryz.prog os Rows.opsOnceRow.laid) zeroArgs 8 (World.laidAll_os _ _ _)
      (World.shaped_of_ZipB (by kernel_rfl) (by kernel_rfl)) (by kernel_rfl) (by kernel_rfl) (by kernel_rfl)
      (by rw [MakeChecks.laidMetH_plain _ _ _ (by kernel_rfl)]; exact laidMet_laidAll _ (by kernel_rfl) (by kernel_rfl))) ?_
  intro W base args ds gs before hval hW _ _ _ hL hsh _
  exact contractOnce H enc W base args ds gs before hval hW hL hsh

theorem saidOnce : Rows.OpsOnceSaid :=
  OpenClaim.holds_of_cond 3 Tryz.f3 rfl rfl rfl rfl rfl rfl rfl ⟨rfl, rfl, rfl, rfl, rfl⟩ rfl rfl rfl rfl rfl (by kernel_rfl) Tryz.func3 (by kernel_rfl)
    (of_decide_eq_true (by kernel_rfl)) (by unfold Func.isWrapper; first | (rw [if_pos (by decide +kernel)]; kernel_rfl) | (rw [if_neg (by decide +kernel)]; exact ⟨rfl, rfl⟩))
    (fun os started H enc _ F => by rw [OpenClaim.pre_eq_preRow]; exact liftedOnce os started H enc F)

theorem plainOnce (f : FuncId) (fn : Func) (hf : Tryz.pinned.checked.prog.funcNamed "foreman/foremankeep.OpsOnce" = some f) (hfn : Tryz.pinned.checked.prog.funcs[f]? = some fn) :
    true = Tryz.pinned.checked.prog.looks [] ∧ ∀ (j : Nat) t, fn.params[j]? = some t → Tryz.pinned.checked.prog.wantsStandIn t = false := by
  obtain rfl : f = 3 := Option.some.inj ((show Tryz.prog.funcNamed "foreman/foremankeep.OpsOnce" = some 3 by kernel_rfl).symm.trans hf) |>.symm
  obtain rfl : fn = Tryz.f3 := (Option.some.inj (Tryz.func3.symm.trans hfn)).symm
  refine ⟨by kernel_rfl, fun j t ht => ?_⟩
  rw [Tryz.params3] at ht
  have hm : t = 25 := by simpa using Array.mem_of_getElem? ht
  subst hm
  exact (show Tryz.prog.wantsStandIn 25 = false by kernel_rfl)

/-- The card. -/
theorem cardOnce : Rows.OpsOnceCardSaid :=
  Claim7.holds_tied_plain_at .later [] _ _ _ _ saidOnce (fun _ h => by cases h) (by kernel_rfl) (fun _ h => by cases h) opsOnce_row_tie rfl ⟨rfl, rfl⟩ (by kernel_rfl) rfl plainOnce (by kernel_rfl)
end Go.Proofs.YtccbjhaebajamaaGreatDoor
