/-
  Two tables that are joined have, for each value, as many rows as the one has, times as many as the other one has; and the sums of groups, added up, are the sum of all: foremankeep.OpsJoin returns true at every input, whatever memory and schedule, and its arguments read as they did. Its conditions: the listed package-level variables start as the program's text lays them (the tied card); nothing is narrowed besides.
-/
import Derived.Test.YtjceppinfjbegaaGreatDoorCards
import Derived.Test.YtjceppinfjbegaaGreatDoorTie
import Derived.Test.YtjceppinfjbegaaGreatDoorEnvsJ
import Derived.Test.YtjceppinfjbegaaGreatDoorJonQ
import Derived.Test.YtjceppinfjbegaaGreatDoorOpens
import Derived.Lib.SmallJoins
import Derived.ChangeMaps5
set_option linter.unusedSimpArgs false
set_option linter.unusedVariables false
namespace Go.Proofs.YtjceppinfjbegaaGreatDoor
open Go.ChangeShapes Go.WideShapes Go.ChangeAt Go.RowKit Go.Joins

set_option maxRecDepth 100000 in
theorem contractJoin (H : Type) (enc : TypeId × Value → H) (W : World) (base : Nat) (args : Array Value) (ds gs : List (DataW H)) (before : List MemPlace)
    (hval : ∀ (j : Nat) t v, Tryz.f4.params[j]? = some t → args[j]? = some v → Value.okWide Tryz.prog W .any base t v)
    (hW : DataW.Whole enc Tryz.prog Tryz.f4.params.toList Rows.opsJoinSpec.vars false W args.toList ds gs before) (hL : laidMetH Tryz.prog Rows.opsJoinRow.laid W) (hsh : W.ShapedOpen Tryz.prog) :
    Calls Tryz.prog 4 args W fun e W' => ∃ v, e = .returned v ∧ Rows.opsJoinSpec.post enc Tryz.prog Tryz.f4 false true false false W args v W' := by
  have hW' := hW
  obtain ⟨p, q, hA0, hV, rfl, hfz, hnd⟩ := hW
  have hA : DataW.TrodAll enc Tryz.prog W 0 (fun _ => true) true Tryz.f4.params.toList args.toList ds p := hA0
  rw [Tryz.params4] at hA hval
  obtain ⟨v0, v1, v2, v3, d0, d1, d2, d3, p0, p1, p2, p3, rfl, rfl, rfl, h0, h1, h2, h3⟩ := trodAll_four hA
  obtain ⟨rfl, rfl⟩ := trodVars_none hV
  have k0 := hval 0 36 v0 rfl rfl
  have k1 := hval 1 36 v1 rfl rfl
  have k2 := hval 2 9 v2 rfl rfl
  have k3 := hval 3 9 v3 rfl rfl
  obtain ⟨vc, vr, cs, rs, rfl, hc, hr⟩ := open_table k0 h0
  obtain ⟨vc2, vr2, cs2, rs2, rfl, hc2, hr2⟩ := open_tableC k1 h1
  obtain ⟨x, rfl, rfl, rfl, hxs⟩ := Go.ChangeMaps.open_string Tryz.underlying9 k2 h2
  obtain ⟨y, rfl, rfl, rfl, hys⟩ := Go.ChangeMaps.open_string Tryz.underlying9 k3 h3
  have hL' : laidMet Tryz.prog Rows.opsJoinRow.laid W := by rw [← MakeChecks.laidMetH_plain _ _ _ (by kernel_rfl)]; exact hL
  clear hA0
  refine (joins_any vc vr vc2 vr2 cs cs2 rs rs2 x y W hc hr hc2 hr2 (env_of hL' hsh)).mono fun e W' ⟨he, hbl⟩ => ?_
  subst he
  refine ⟨_, rfl, _, _, _, [], p0 ++ p1 ++ [] ++ [], [], hW', trodAll_mk1 (shut_bool Tryz.underlying4 _), ?_, rfl, hbl.frame _, fun h => by cases h⟩
  have lo : laidOutB Tryz.prog = true := by kernel_rfl
  obtain ⟨n0, g0⟩ := h0
  obtain ⟨n1, g1⟩ := h1
  obtain ⟨n2, g2⟩ := h2
  obtain ⟨n3, g3⟩ := h3
  have h := trodAll_mk4 (Below.trod lo (by kernel_rfl) (of_decide_eq_true (by kernel_rfl)) ⟨n0, g0⟩ hbl (DataW.trod_lt n0 _ _ _ g0)) (Below.trod lo (by kernel_rfl) (of_decide_eq_true (by kernel_rfl)) ⟨n1, g1⟩ hbl (DataW.trod_lt n1 _ _ _ g1)) (Below.trod lo (by kernel_rfl) (of_decide_eq_true (by kernel_rfl)) ⟨n2, g2⟩ hbl (by simp)) (Below.trod lo (by kernel_rfl) (of_decide_eq_true (by kernel_rfl)) ⟨n3, g3⟩ hbl (by simp))
  rw [← List.append_assoc, ← List.append_assoc] at h
  exact h

/-- The witness' arguments: the tables of nothing, the texts of nothing. -/
def zeroArgs : Array Value := #[.agg #[.slice none 0 0, .slice none 0 0], .agg #[.slice none 0 0, .slice none 0 0], .string ⟨#[]⟩, .string ⟨#[]⟩]

set_option maxRecDepth 100000 in
theorem liftedJoin (os : Os) (started : os.Started) (H : Type) (enc : TypeId × Value → H) (F : Stop.Interp) :
    ReturnsInHanded {} Tryz.checked os 4 .any ((OpenSpec.ofChange Rows.opsJoinSpec).preRow enc Tryz.prog Tryz.f4 Rows.opsJoinRow.domain false Rows.opsJoinRow.laid) (((OpenSpec.ofChange Rows.opsJoinSpec).at F).post enc Tryz.prog Tryz.f4 false true false false) := by
  refine returnsInHanded_of_row (C := Tryz.checked) (s := OpenSpec.ofChange Rows.opsJoinSpec) own started (by kernel_rfl) Tryz.func4
    (ChangeSpec.witness_shaped (enc := enc) (C := Tryz.checked) (os := os) (fn := Tryz.f4) (s := Rows.opsJoinSpec) (conds := Rows.opsJoinRow.domain) (apart := false) (X := fun w _ => laidMetH Tryz.prog Rows.opsJoinRow.laid w) false (World.laidAll Tryz.prog os Rows.opsJoinRow.laid) zeroArgs 8 (World.laidAll_os _ _ _)
      (World.shaped_of_ZipB (by kernel_rfl) (by kernel_rfl)) (by kernel_rfl) (by kernel_rfl) (by kernel_rfl)
      (by rw [MakeChecks.laidMetH_plain _ _ _ (by kernel_rfl)]; exact laidMet_laidAll _ (by kernel_rfl) (by kernel_rfl))) ?_
  intro W base args ds gs before hval hW _ _ _ hL hsh _
  exact contractJoin H enc W base args ds gs before hval hW hL hsh

theorem saidJoin : Rows.OpsJoinSaid :=
  OpenClaim.holds_of_cond 4 Tryz.f4 rfl rfl rfl rfl rfl rfl rfl ⟨rfl, rfl, rfl, rfl, rfl⟩ rfl rfl rfl rfl rfl (by kernel_rfl) Tryz.func4 (by kernel_rfl)
    (of_decide_eq_true (by kernel_rfl)) (by unfold Func.isWrapper; first | (rw [if_pos (by decide +kernel)]; kernel_rfl) | (rw [if_neg (by decide +kernel)]; exact ⟨rfl, rfl⟩))
    (fun os started H enc _ F => by rw [OpenClaim.pre_eq_preRow]; exact liftedJoin os started H enc F)

theorem plainJoin (f : FuncId) (fn : Func) (hf : Tryz.pinned.checked.prog.funcNamed "foreman/foremankeep.OpsJoin" = some f) (hfn : Tryz.pinned.checked.prog.funcs[f]? = some fn) :
    true = Tryz.pinned.checked.prog.looks [] ∧ ∀ (j : Nat) t, fn.params[j]? = some t → Tryz.pinned.checked.prog.wantsStandIn t = false := by
  obtain rfl : f = 4 := Option.some.inj ((show Tryz.prog.funcNamed "foreman/foremankeep.OpsJoin" = some 4 by kernel_rfl).symm.trans hf) |>.symm
  obtain rfl : fn = Tryz.f4 := (Option.some.inj (Tryz.func4.symm.trans hfn)).symm
  refine ⟨by kernel_rfl, fun j t ht => ?_⟩
  rw [Tryz.params4] at ht
  have hm : t = 36 ∨ t = 36 ∨ t = 9 ∨ t = 9 := by simpa using Array.mem_of_getElem? ht
  rcases hm with rfl | rfl | rfl | rfl
  · exact (show Tryz.prog.wantsStandIn 36 = false by kernel_rfl)
  · exact (show Tryz.prog.wantsStandIn 36 = false by kernel_rfl)
  · exact (show Tryz.prog.wantsStandIn 9 = false by kernel_rfl)
  · exact (show Tryz.prog.wantsStandIn 9 = false by kernel_rfl)

/-- The card. -/
theorem cardJoin : Rows.OpsJoinCardSaid :=
  Claim7.holds_tied_plain_at .later [] _ _ _ _ saidJoin (fun _ h => by cases h) (by kernel_rfl) (fun _ h => by cases h) opsJoin_row_tie rfl ⟨rfl, rfl⟩ (by kernel_rfl) rfl plainJoin (by kernel_rfl)
end Go.Proofs.YtjceppinfjbegaaGreatDoor

