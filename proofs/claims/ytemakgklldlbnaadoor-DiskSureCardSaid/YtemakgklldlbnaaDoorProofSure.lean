/-
  Whatever is written behind a Sync, and lost, a sector that was not written again is as it was; one that was is as it was, or as it was written some time: foremankeep.DiskSure returns true at every input, whatever memory and schedule, and its arguments read as they did. Its conditions: the listed package-level variables start as the program's text lays them (the tied card); nothing is narrowed besides.
-/
import Derived.Test.YtemakgklldlbnaaDoorCards
import Derived.Test.YtemakgklldlbnaaDoorTie
import Derived.Test.YtemakgklldlbnaaDoorDskY
import Derived.Test.YtemakgklldlbnaaDoorDskL
import Derived.Carry
set_option linter.unusedSimpArgs false
set_option linter.unusedVariables false
namespace Go.Proofs.YtemakgklldlbnaaDoor
open Go.ChangeShapes Go.WideShapes Go.ChangeAt Go.RowKit Go.Joins Go.Deep Dk

set_option maxRecDepth 100000 in
theorem contractSure (H : Type) (enc : TypeId × Value → H) (W : World) (base : Nat) (args : Array Value) (ds gs : List (DataW H)) (before : List MemPlace)
    (hval : ∀ (j : Nat) t v, Tryd.f3.params[j]? = some t → args[j]? = some v → Value.okWide Tryd.prog W .any base t v)
    (hW : DataW.Whole enc Tryd.prog Tryd.f3.params.toList Rows.diskSureSpec.vars false W args.toList ds gs before) (hL : laidMetH Tryd.prog Rows.diskSureRow.laid W) :
    Calls Tryd.prog 3 args W fun e W' => ∃ v, e = .returned v ∧ Rows.diskSureSpec.post enc Tryd.prog Tryd.f3 false true false false W args v W' := by
  have hW' := hW
  obtain ⟨p, q, hA0, hV, rfl, hfz, hnd⟩ := hW
  have hA : DataW.TrodAll enc Tryd.prog W 0 (fun _ => true) true Tryd.f3.params.toList args.toList ds p := hA0
  rw [Tryd.params3] at hA hval
  obtain ⟨v0, v1, v2, v3, d0, d1, d2, d3, p0, p1, p2, p3, rfl, rfl, rfl, h0, h1, h2, h3⟩ := trodAll_four hA
  obtain ⟨rfl, rfl⟩ := trodVars_none hV
  obtain ⟨s0, l0, r0, rfl⟩ := okWide_slice Tryd.underlying22 (hval 0 22 v0 rfl rfl)
  obtain ⟨s1, l1, r1, rfl⟩ := okWide_slice Tryd.underlying22 (hval 1 22 v1 rfl rfl)
  obtain ⟨s2, l2, r2, rfl⟩ := okWide_slice Tryd.underlying23 (hval 2 23 v2 rfl rfl)
  obtain ⟨s3, l3, r3, rfl⟩ := okWide_slice Tryd.underlying24 (hval 3 24 v3 rfl rfl)
  obtain ⟨n0, g0⟩ := h0
  obtain ⟨n1, g1⟩ := h1
  obtain ⟨n2, g2⟩ := h2
  obtain ⟨n3, g3⟩ := h3
  obtain ⟨l, hl, hls⟩ := open_strs' (show DataW.trod enc Tryd.prog W 0 (fun _ => true) true n0 22 [.slice s0 l0 r0] = _ from g0)
  obtain ⟨mo, hmo, hmos⟩ := open_strs' (show DataW.trod enc Tryd.prog W 0 (fun _ => true) true n1 22 [.slice s1 l1 r1] = _ from g1)
  obtain ⟨ats, hat, hai⟩ := open_ints' (show DataW.trod enc Tryd.prog W 0 (fun _ => true) true n2 23 [.slice s2 l2 r2] = _ from g2)
  obtain ⟨ks, hks, -⟩ := open_bools' (show DataW.trod enc Tryd.prog W 0 (fun _ => true) true n3 24 [.slice s3 l3 r3] = _ from g3)
  clear hA0
  refine (sure_any _ _ _ _ l mo ats ks W hl hmo hat hks hls hmos hai).mono fun e W' ⟨he, hbl⟩ => ?_
  subst he
  have lo : laidOutB Tryd.prog = true := by kernel_rfl
  have h := trodAll_mk4 (Below.trod lo (by kernel_rfl) (of_decide_eq_true (by kernel_rfl)) ⟨n0, g0⟩ hbl (DataW.trod_lt n0 _ _ _ g0)) (Below.trod lo (by kernel_rfl) (of_decide_eq_true (by kernel_rfl)) ⟨n1, g1⟩ hbl (DataW.trod_lt n1 _ _ _ g1)) (Below.trod lo (by kernel_rfl) (of_decide_eq_true (by kernel_rfl)) ⟨n2, g2⟩ hbl (DataW.trod_lt n2 _ _ _ g2)) (Below.trod lo (by kernel_rfl) (of_decide_eq_true (by kernel_rfl)) ⟨n3, g3⟩ hbl (DataW.trod_lt n3 _ _ _ g3))
  exact ⟨_, rfl, _, _, _, [], _, [], hW', trodAll_mk1 (shut_bool Tryd.underlying4 _), h, rfl, hbl.frame _, fun h => by cases h⟩

set_option maxRecDepth 100000 in
theorem liftedSure (os : Os) (started : os.Started) (H : Type) (enc : TypeId × Value → H) (F : Stop.Interp) :
    ReturnsInHanded {} Tryd.checked os 3 .any ((OpenSpec.ofChange Rows.diskSureSpec).preRow enc Tryd.prog Tryd.f3 Rows.diskSureRow.domain false Rows.diskSureRow.laid) (((OpenSpec.ofChange Rows.diskSureSpec).at F).post enc Tryd.prog Tryd.f3 false true false false) := by
  refine returnsInHanded_of_row (C := Tryd.checked) (s := OpenSpec.ofChange Rows.diskSureSpec) Dk.own started (by kernel_rfl) Tryd.func3
    (ChangeSpec.witness_shaped (enc := enc) (C := Tryd.checked) (os := os) (fn := Tryd.f3) (s := Rows.diskSureSpec) (conds := Rows.diskSureRow.domain) (apart := false) (X := fun w _ => laidMetH Tryd.prog Rows.diskSureRow.laid w) false (World.laidAll Tryd.prog os Rows.diskSureRow.laid) #[.slice none 0 0, .slice none 0 0, .slice none 0 0, .slice none 0 0] 8 (World.laidAll_os _ _ _)
      (World.shaped_of_ZipB (by kernel_rfl) (by kernel_rfl)) (by kernel_rfl) (by kernel_rfl) (by kernel_rfl)
      (by rw [MakeChecks.laidMetH_plain _ _ _ (by kernel_rfl)]; exact laidMet_laidAll _ (by kernel_rfl) (by kernel_rfl))) ?_
  intro W base args ds gs before hval hW _ _ _ hL hsh _
  exact contractSure H enc W base args ds gs before hval hW hL

theorem saidSure : Rows.DiskSureSaid :=
  OpenClaim.holds_of_cond 3 Tryd.f3 rfl rfl rfl rfl rfl rfl rfl ⟨rfl, rfl, rfl, rfl, rfl⟩ rfl rfl rfl rfl rfl (by kernel_rfl) Tryd.func3 (by kernel_rfl)
    (of_decide_eq_true (by kernel_rfl)) (by unfold Func.isWrapper; first | (rw [if_pos (by decide +kernel)]; kernel_rfl) | (rw [if_neg (by decide +kernel)]; exact ⟨rfl, rfl⟩))
    (fun os started H enc _ F => by rw [OpenClaim.pre_eq_preRow]; exact liftedSure os started H enc F)

theorem plainSure (f : FuncId) (fn : Func) (hf : Tryd.pinned.checked.prog.funcNamed "foreman/foremankeep.DiskSure" = some f) (hfn : Tryd.pinned.checked.prog.funcs[f]? = some fn) :
    true = Tryd.pinned.checked.prog.looks [] ∧ ∀ (j : Nat) t, fn.params[j]? = some t → Tryd.pinned.checked.prog.wantsStandIn t = false := by
  obtain rfl : f = 3 := Option.some.inj ((show Tryd.prog.funcNamed "foreman/foremankeep.DiskSure" = some 3 by kernel_rfl).symm.trans hf) |>.symm
  obtain rfl : fn = Tryd.f3 := (Option.some.inj (Tryd.func3.symm.trans hfn)).symm
  refine ⟨by kernel_rfl, fun j t ht => ?_⟩
  rw [Tryd.params3] at ht
  have hm := Array.mem_of_getElem? ht
  simp only [List.mem_toArray, List.mem_cons, List.not_mem_nil, or_false] at hm
  rcases hm with rfl | rfl | rfl | rfl
  · exact (show Tryd.prog.wantsStandIn 22 = false by kernel_rfl)
  · exact (show Tryd.prog.wantsStandIn 22 = false by kernel_rfl)
  · exact (show Tryd.prog.wantsStandIn 23 = false by kernel_rfl)
  · exact (show Tryd.prog.wantsStandIn 24 = false by kernel_rfl)

/-- The card. -/
theorem cardSure : Rows.DiskSureCardSaid :=
  Claim7.holds_tied_plain_at .later [] _ _ _ _ saidSure (fun _ h => by cases h) (by kernel_rfl) (fun _ h => by cases h) diskSure_row_tie rfl ⟨rfl, rfl⟩ (by kernel_rfl) rfl plainSure (by kernel_rfl)
end Go.Proofs.YtemakgklldlbnaaDoor

