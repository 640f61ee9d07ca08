/-
  Behind a Sync a disk that loses power reads as it did, once more too, and a spent fuse lets nothing be written: foremankeep.DiskRests returns true at every input, whatever memory and schedule, and its arguments read as they did. Its conditions: the listed package-level variable starts as the program's text lays it (the tied card); nothing is narrowed besides.
-/
import Derived.Test.YtgmngifnilmheaaDoorCards
import Derived.Test.YtgmngifnilmheaaDoorTie
import Derived.Test.YtgmngifnilmheaaDoorDskK
import Derived.Test.YtgmngifnilmheaaDoorDskL
set_option linter.unusedSimpArgs false
set_option linter.unusedVariables false
namespace Go.Proofs.YtgmngifnilmheaaDoor
open Go.ChangeShapes Go.WideShapes Go.ChangeAt Go.RowKit Go.Joins Go.Deep Dk

set_option maxRecDepth 100000 in
theorem contractRests (H : Type) (enc : TypeId × Value → H) (W : World) (base : Nat) (args : Array Value) (ds gs : List (DataW H)) (before : List MemPlace)
    (hval : ∀ (j : Nat) t v, Tryd.f5.params[j]? = some t → args[j]? = some v → Value.okWide Tryd.prog W .any base t v)
    (hW : DataW.Whole enc Tryd.prog Tryd.f5.params.toList Rows.diskRestsSpec.vars false W args.toList ds gs before) (hL : laidMetH Tryd.prog Rows.diskRestsRow.laid W) (hsh : W.ShapedOpen Tryd.prog) :
    Calls Tryd.prog 5 args W fun e W' => ∃ v, e = .returned v ∧ Rows.diskRestsSpec.post enc Tryd.prog Tryd.f5 false true false false W args v W' := by
  have hW' := hW
  obtain ⟨p, q, hA0, hV, rfl, hfz, hnd⟩ := hW
  have hA : DataW.TrodAll enc Tryd.prog W 0 (fun _ => true) true Tryd.f5.params.toList args.toList ds p := hA0
  rw [Tryd.params5] at hA hval
  obtain ⟨v0, v1, v2, d0, d1, d2, p0, p1, p2, rfl, rfl, rfl, h0, h1, h2⟩ := trodAll_three hA
  obtain ⟨rfl, rfl⟩ := trodVars_none hV
  obtain ⟨s0, l0, r0, rfl⟩ := okWide_slice Tryd.underlying42 (hval 0 42 v0 rfl rfl)
  obtain ⟨s1, l1, r1, rfl⟩ := okWide_slice Tryd.underlying43 (hval 1 43 v1 rfl rfl)
  obtain ⟨s2, l2, r2, rfl⟩ := okWide_slice Tryd.underlying33 (hval 2 33 v2 rfl rfl)
  obtain ⟨n0, g0⟩ := h0
  obtain ⟨n1, g1⟩ := h1
  obtain ⟨n2, g2⟩ := h2
  obtain ⟨l, hl, hls⟩ := open_strs' (show DataW.trod enc Tryd.prog W 0 (fun _ => true) true n0 42 [.slice s0 l0 r0] = _ from g0)
  obtain ⟨ats, hat, hai⟩ := open_ints' (show DataW.trod enc Tryd.prog W 0 (fun _ => true) true n1 43 [.slice s1 l1 r1] = _ from g1)
  obtain ⟨ks, hks, -⟩ := open_bools' (show DataW.trod enc Tryd.prog W 0 (fun _ => true) true n2 33 [.slice s2 l2 r2] = _ from g2)
  have hL' : laidMet Tryd.prog [] W ∧ handlesMet Tryd.prog Rows.diskRestsRow.laid W := hL
  clear hA0
  refine (rests_any _ _ _ l ats ks W hl hat hks hls hai (handle_of (List.mem_singleton.2 rfl) hL'.2)).mono fun e W' ⟨he, hbl⟩ => ?_
  subst he
  refine ⟨_, rfl, _, _, _, [], p0 ++ (p1 ++ p2), [], hW', trodAll_mk1 (shut_bool Tryd.underlying4 _), ?_, rfl, hbl.frame _, fun h => by cases h⟩
  have lo : laidOutB Tryd.prog = true := by kernel_rfl
  exact trodAll_mk3 (Below.trod lo (by kernel_rfl) (of_decide_eq_true (by kernel_rfl)) ⟨n0, g0⟩ hbl (DataW.trod_lt n0 _ _ _ g0)) (Below.trod lo (by kernel_rfl) (of_decide_eq_true (by kernel_rfl)) ⟨n1, g1⟩ hbl (DataW.trod_lt n1 _ _ _ g1)) (Below.trod lo (by kernel_rfl) (of_decide_eq_true (by kernel_rfl)) ⟨n2, g2⟩ hbl (DataW.trod_lt n2 _ _ _ g2))

/-- The witness' arguments: lists of nothing. -/
def zeroArgs : Array Value := #[.slice none 0 0, .slice none 0 0, .slice none 0 0]

set_option maxRecDepth 100000 in
theorem liftedRests (os : Os) (started : os.Started) (H : Type) (enc : TypeId × Value → H) (F : Stop.Interp) :
    ReturnsInHanded {} Tryd.checked os 5 .any ((OpenSpec.ofChange Rows.diskRestsSpec).preRow enc Tryd.prog Tryd.f5 Rows.diskRestsRow.domain false Rows.diskRestsRow.laid) (((OpenSpec.ofChange Rows.diskRestsSpec).at F).post enc Tryd.prog Tryd.f5 false true false false) := by
  refine returnsInHanded_of_row (C := Tryd.checked) (s := OpenSpec.ofChange Rows.diskRestsSpec) own started (by kernel_rfl) Tryd.func5
    (ChangeSpec.witness_shaped (enc := enc) (C := Tryd.checked) (os := os) (fn := Tryd.f5) (s := Rows.diskRestsSpec) (conds := Rows.diskRestsRow.domain) (apart := false) (X := fun w _ => laidMetH Tryd.prog Rows.diskRestsRow.laid w) false
      { World.holding Tryd.prog os ⟨#[], #[], []⟩ with heap := (World.holding Tryd.prog os ⟨#[], #[], []⟩).heap.modify 0 fun
        | .cells _ t frozen => .cells #[.iface 140 (.agg #[.pointer (some ⟨4, 29, none⟩)])] t frozen
        | o => o } zeroArgs 8 rfl
      (World.shaped_of_ZipB (by kernel_rfl) (by kernel_rfl)) (by kernel_rfl) (by kernel_rfl) (by kernel_rfl)
      (laidMetH_of_parts (laidMet_nil _ _) (by kernel_rfl))) ?_
  intro W base args ds gs before hval hW _ _ _ hL hsh _
  exact contractRests H enc W base args ds gs before hval hW hL hsh

theorem saidRests : Rows.DiskRestsSaid :=
  OpenClaim.holds_of_cond 5 Tryd.f5 rfl rfl rfl rfl rfl rfl rfl ⟨rfl, rfl, rfl, rfl, rfl⟩ rfl rfl rfl rfl rfl (by kernel_rfl) Tryd.func5 (by kernel_rfl)
    (of_decide_eq_true (by kernel_rfl)) (by unfold Func.isWrapper; first | (rw [if_pos (by decide +kernel)]; kernel_rfl) | (rw [if_neg (by decide +kernel)]; exact ⟨rfl, rfl⟩))
    (fun os started H enc _ F => by rw [OpenClaim.pre_eq_preRow]; exact liftedRests os started H enc F)

theorem plainRests (f : FuncId) (fn : Func) (hf : Tryd.pinned.checked.prog.funcNamed "foreman/foremankeep.DiskRests" = some f) (hfn : Tryd.pinned.checked.prog.funcs[f]? = some fn) :
    true = Tryd.pinned.checked.prog.looks [] ∧ ∀ (j : Nat) t, fn.params[j]? = some t → Tryd.pinned.checked.prog.wantsStandIn t = false := by
  obtain rfl : f = 5 := Option.some.inj ((show Tryd.prog.funcNamed "foreman/foremankeep.DiskRests" = some 5 by kernel_rfl).symm.trans hf) |>.symm
  obtain rfl : fn = Tryd.f5 := (Option.some.inj (Tryd.func5.symm.trans hfn)).symm
  refine ⟨by kernel_rfl, fun j t ht => ?_⟩
  rw [Tryd.params5] at ht
  have hm := Array.mem_of_getElem? ht
  simp only [List.mem_toArray, List.mem_cons, List.not_mem_nil, or_false] at hm
  rcases hm with rfl | rfl | rfl
  · exact (show Tryd.prog.wantsStandIn 42 = false by kernel_rfl)
  · exact (show Tryd.prog.wantsStandIn 43 = false by kernel_rfl)
  · exact (show Tryd.prog.wantsStandIn 33 = false by kernel_rfl)

/-- The card. -/
theorem cardRests : Rows.DiskRestsCardSaid :=
  Claim7.holds_tied_plain_at .later [] _ _ _ _ saidRests (fun _ h => by cases h) (by kernel_rfl) (fun _ h => by cases h) diskRests_row_tie rfl ⟨rfl, rfl⟩ (by kernel_rfl) rfl plainRests (by kernel_rfl)
end Go.Proofs.YtgmngifnilmheaaDoor
