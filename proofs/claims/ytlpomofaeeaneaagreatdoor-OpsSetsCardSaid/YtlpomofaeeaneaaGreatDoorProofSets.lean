/-
  A column of numbers that is made more, and then less by as much, is as it was; times 1, and 0 more, too; less itself it is 0: foremankeep.OpsSets returns true at every input, whatever memory and schedule, and its arguments read as they did. Its conditions: the listed package-level variables start as the program's text lays them (the tied card); nothing is narrowed besides.
-/
import Derived.Test.YtlpomofaeeaneaaGreatDoorCards
import Derived.Test.YtlpomofaeeaneaaGreatDoorTie
import Derived.Test.YtlpomofaeeaneaaGreatDoorEnvs
import Derived.Test.YtlpomofaeeaneaaGreatDoorSetI
import Derived.Test.YtlpomofaeeaneaaGreatDoorOpens
import Derived.Lib.SmallJoins
import Derived.ChangeMaps5
set_option linter.unusedSimpArgs false
set_option linter.unusedVariables false
namespace Go.Proofs.YtlpomofaeeaneaaGreatDoor
open Go.ChangeShapes Go.WideShapes Go.ChangeAt Go.RowKit Go.Joins

theorem sets_any (vc vr : Value) (cs : List Cl) (rs : List (List Vl)) (col : ByteArray) (n : Int) (w : World) (hc : ColsIs w vc cs) (hr : RowsIs w vr rs) (hcol : col.size ≤ maxLen) (hE : Env w) (hn0 : -9223372036854775808 ≤ n) (hn1 : n ≤ 9223372036854775807) :
    Calls Tryz.prog 5 #[.agg #[vc, vr], .string col, .int .i64 n] w fun e w' => e = .returned (.bool true) ∧ Below w.heap.size w w' := by
  cases hrt : rightB cs rs
  · exact sets_bad vc vr cs rs col n w hc hr hcol hE (Or.inl hrt)
  · by_cases hce : colErr cs col = 0
    · exact sets_good vc vr cs rs col n w hc hr hcol hE hrt hce hn0 hn1
    · exact sets_bad vc vr cs rs col n w hc hr hcol hE (Or.inr hce)

set_option maxRecDepth 100000 in
theorem contractSets (H : Type) (enc : TypeId × Value → H) (W : World) (base : Nat) (args : Array Value) (ds gs : List (DataW H)) (before : List MemPlace)
    (hval : ∀ (j : Nat) t v, Tryz.f5.params[j]? = some t → args[j]? = some v → Value.okWide Tryz.prog W .any base t v)
    (hW : DataW.Whole enc Tryz.prog Tryz.f5.params.toList Rows.opsSetsSpec.vars false W args.toList ds gs before) (hL : laidMetH Tryz.prog Rows.opsSetsRow.laid W) (hsh : W.ShapedOpen Tryz.prog) :
    Calls Tryz.prog 5 args W fun e W' => ∃ v, e = .returned v ∧ Rows.opsSetsSpec.post enc Tryz.prog Tryz.f5 false true false false W args v W' := by
  have hW' := hW
  obtain ⟨p, q, hA0, hV, rfl, hfz, hnd⟩ := hW
  have hA : DataW.TrodAll enc Tryz.prog W 0 (fun _ => true) true Tryz.f5.params.toList args.toList ds p := hA0
  rw [Tryz.params5] at hA hval
  obtain ⟨v0, v1, v2, d0, d1, d2, p0, p1, p2, rfl, rfl, rfl, h0, h1, h2⟩ := trodAll_three hA
  obtain ⟨rfl, rfl⟩ := trodVars_none hV
  have k0 := hval 0 25 v0 rfl rfl
  have k1 := hval 1 9 v1 rfl rfl
  have k2 := hval 2 3 v2 rfl rfl
  obtain ⟨vc, vr, cs, rs, rfl, hc, hr⟩ := open_table k0 h0
  obtain ⟨col, rfl, rfl, rfl, hcs⟩ := Go.ChangeMaps.open_string Tryz.underlying9 k1 h1
  obtain ⟨n, rfl, rfl, rfl, hwf⟩ := open_int Tryz.underlying3 k2 h2
  have hL' : laidMet Tryz.prog Rows.opsOnceRow.laid W := by rw [← MakeChecks.laidMetH_plain _ _ _ (by kernel_rfl)]; exact hL
  have hrng : -9223372036854775808 ≤ n ∧ n ≤ 9223372036854775807 := by
    simp [Lit.wf, IntKind.wrap, IntKind.signed, IntKind.bits] at hwf
    have e : IntKind.i64.min = -9223372036854775808 := by decide
    rw [e] at hwf
    exact hwf
  clear hA0
  refine (sets_any vc vr cs rs col n W hc hr hcs (env_of hL' hsh) hrng.1 hrng.2).mono fun e W' ⟨he, hbl⟩ => ?_
  subst he
  refine ⟨_, rfl, _, _, _, [], p0 ++ [] ++ [], [], hW', trodAll_mk1 (shut_bool Tryz.underlying4 _), ?_, rfl, hbl.frame _, fun h => by cases h⟩
  have lo : laidOutB Tryz.prog = true := by kernel_rfl
  obtain ⟨n0, g0⟩ := h0
  obtain ⟨n1, g1⟩ := h1
  obtain ⟨n2, g2⟩ := h2
  have h := trodAll_mk3 (Below.trod lo (by kernel_rfl) (of_decide_eq_true (by kernel_rfl)) ⟨n0, g0⟩ hbl (DataW.trod_lt n0 _ _ _ g0)) (Below.trod lo (by kernel_rfl) (of_decide_eq_true (by kernel_rfl)) ⟨n1, g1⟩ hbl (by simp)) (Below.trod lo (by kernel_rfl) (of_decide_eq_true (by kernel_rfl)) ⟨n2, g2⟩ hbl (by simp))
  rw [← List.append_assoc] at h
  exact h

/-- The witness' arguments: the table of nothing, the text of nothing, 0. -/
def zeroArgs : Array Value := #[.agg #[.slice none 0 0, .slice none 0 0], .string ⟨#[]⟩, .int .i64 0]

set_option maxRecDepth 100000 in
theorem liftedSets (os : Os) (started : os.Started) (H : Type) (enc : TypeId × Value → H) (F : Stop.Interp) :
    ReturnsInHanded {} Tryz.checked os 5 .any ((OpenSpec.ofChange Rows.opsSetsSpec).preRow enc Tryz.prog Tryz.f5 Rows.opsSetsRow.domain false Rows.opsSetsRow.laid) (((OpenSpec.ofChange Rows.opsSetsSpec).at F).post enc Tryz.prog Tryz.f5 false true false false) := by
  refine returnsInHanded_of_row (C := Tryz.checked) (s := OpenSpec.ofChange Rows.opsSetsSpec) own started (by kernel_rfl) Tryz.func5
    (ChangeSpec.witness_shaped (enc := enc) (C := Tryz.checked) (os := os) (fn := Tryz.f5) (s := Rows.opsSetsSpec) (conds := Rows.opsSetsRow.domain) (apart := false) (X := fun w _ => laidMetH Tryz.prog Rows.opsSetsRow.laid w) false (World.laidAll Tryz.prog os Rows.opsSetsRow.laid) zeroArgs 8 (World.laidAll_os _ _ _)
      (World.shaped_of_ZipB (by kernel_rfl) (by kernel_rfl)) (by kernel_rfl) (by kernel_rfl) (by kernel_rfl)
      (by rw [MakeChecks.laidMetH_plain _ _ _ (by kernel_rfl)]; exact laidMet_laidAll _ (by kernel_rfl) (by kernel_rfl))) ?_
  intro W base args ds gs before hval hW _ _ _ hL hsh _
  exact contractSets H enc W base args ds gs before hval hW hL hsh

theorem saidSets : Rows.OpsSetsSaid :=
  OpenClaim.holds_of_cond 5 Tryz.f5 rfl rfl rfl rfl rfl rfl rfl ⟨rfl, rfl, rfl, rfl, rfl⟩ rfl rfl rfl rfl rfl (by kernel_rfl) Tryz.func5 (by kernel_rfl)
    (of_decide_eq_true (by kernel_rfl)) (by unfold Func.isWrapper; first | (rw [if_pos (by decide +kernel)]; kernel_rfl) | (rw [if_neg (by decide +kernel)]; exact ⟨rfl, rfl⟩))
    (fun os started H enc _ F => by rw [OpenClaim.pre_eq_preRow]; exact liftedSets os started H enc F)

theorem plainSets (f : FuncId) (fn : Func) (hf : Tryz.pinned.checked.prog.funcNamed "foreman/foremankeep.OpsSets" = some f) (hfn : Tryz.pinned.checked.prog.funcs[f]? = some fn) :
    true = Tryz.pinned.checked.prog.looks [] ∧ ∀ (j : Nat) t, fn.params[j]? = some t → Tryz.pinned.checked.prog.wantsStandIn t = false := by
  obtain rfl : f = 5 := Option.some.inj ((show Tryz.prog.funcNamed "foreman/foremankeep.OpsSets" = some 5 by kernel_rfl).symm.trans hf) |>.symm
  obtain rfl : fn = Tryz.f5 := (Option.some.inj (Tryz.func5.symm.trans hfn)).symm
  refine ⟨by kernel_rfl, fun j t ht => ?_⟩
  rw [Tryz.params5] at ht
  have hm : t = 25 ∨ t = 9 ∨ t = 3 := by simpa using Array.mem_of_getElem? ht
  rcases hm with rfl | rfl | rfl
  · exact (show Tryz.prog.wantsStandIn 25 = false by kernel_rfl)
  · exact (show Tryz.prog.wantsStandIn 9 = false by kernel_rfl)
  · exact (show Tryz.prog.wantsStandIn 3 = false by kernel_rfl)

/-- The card. -/
theorem cardSets : Rows.OpsSetsCardSaid :=
  Claim7.holds_tied_plain_at .later [] _ _ _ _ saidSets (fun _ h => by cases h) (by kernel_rfl) (fun _ h => by cases h) opsSets_row_tie rfl ⟨rfl, rfl⟩ (by kernel_rfl) rfl plainSets (by kernel_rfl)
end Go.Proofs.YtlpomofaeeaneaaGreatDoor
