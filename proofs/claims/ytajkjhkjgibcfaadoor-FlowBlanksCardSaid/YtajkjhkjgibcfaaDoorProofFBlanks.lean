/-
  With other blanks and line feeds between its tokens a flow is written just so: foremankeep.FlowBlanks returns true at every text and every list of numbers, whatever memory and schedule, and its arguments read as they did. Its conditions: the listed package-level variables start as the program's text lays them (the tied card); nothing is narrowed besides.
-/
import Derived.Test.YtajkjhkjgibcfaaDoorCards
import Derived.Test.YtajkjhkjgibcfaaDoorTie
import Derived.Test.YtajkjhkjgibcfaaDoorFlwBn
import Derived.Test.YtajkjhkjgibcfaaDoorFlwEn
import Derived.Lib.SmallJoins
import Derived.Deep.SlicePairs
import Derived.Deep.Strs
set_option linter.unusedSimpArgs false
set_option linter.unusedVariables false
namespace Go.Proofs.YtajkjhkjgibcfaaDoor
open Go.ChangeShapes Go.WideShapes Go.ChangeAt Go.RowKit Go.Joins Go.Deep

theorem plain_addrF {W : World} {a : Addr} {v : Value} (h : W.cell? (a.add 0) = some v) : ∃ b o, a = ⟨b, o, none⟩ := by
  obtain ⟨b, o, s⟩ := a
  have hs : s = none := by simpa [Addr.add] using World.cell?_spot h
  exact ⟨b, o, by rw [hs]⟩
/-- A list of numbers, opened. -/
theorem open_intsF {H : Type} {enc : TypeId × Value → H} {W : World} {n : Nat} {v : Value} {x : DataW H × List MemPlace} (h : DataW.trod enc Tryd.prog W 0 (fun _ => true) true n 34 [v] = some x) : ∃ l : List Int, IntsR W v l := by
  rcases open_slice1 Tryd.underlying34 (by kernel_rfl) h with ⟨h0, -⟩ | ⟨a, len, cap, m, k, V, D, Pl, h0, -, hl, hm, hmm, -, hx⟩
  · exact ⟨[], none, 0, by simpa using h0, Or.inl rfl⟩
  · have hmm' : m = cap := by simpa using hmm
    obtain ⟨q, hq⟩ := choose_lt (n := len) (p := fun i (r : Int) => V i = .int .i64 r) (fun i hi => by
      obtain ⟨s, e, -⟩ := DataW.trod_int Tryd.underlying3 (hx i (by omega)).2
      exact ⟨s, by simpa using e⟩)
    refine ⟨(List.range len).map q, some a, cap, by simpa using h0, ?_⟩
    by_cases hz : len = 0
    · exact Or.inl (by rw [hz]; rfl)
    · have c0 := (hx 0 (by omega)).1
      obtain ⟨b, o, rfl⟩ := plain_addrF c0
      refine Or.inr ⟨b, o, rfl, World.block_lt_of_cell? W _ c0, fun j hj => ?_⟩
      have hj2 : j < len := by simpa using hj
      have d := (hx j (by omega)).1
      rw [Addr.add_mid] at d
      rw [d, hq j hj2]
      simp

set_option maxRecDepth 100000 in
theorem contractBlanks (H : Type) (enc : TypeId × Value → H) (W : World) (base : Nat) (args : Array Value) (ds gs : List (DataW H)) (before : List MemPlace)
    (hval : ∀ (j : Nat) t v, Tryd.f4.params[j]? = some t → args[j]? = some v → Value.okWide Tryd.prog W .any base t v)
    (hW : DataW.Whole enc Tryd.prog Tryd.f4.params.toList Rows.flowBlanksSpec.vars false W args.toList ds gs before) (hL : laidMetH Tryd.prog Rows.flowBlanksRow.laid W) :
    Calls Tryd.prog 4 args W fun e W' => ∃ v, e = .returned v ∧ Rows.flowBlanksSpec.post enc Tryd.prog Tryd.f4 false true false false W args v W' := by
  have hW' := hW
  obtain ⟨p, q, hA0, hV, rfl, hfz, hnd⟩ := hW
  have hA : DataW.TrodAll enc Tryd.prog W 0 (fun _ => true) true Tryd.f4.params.toList args.toList ds p := hA0
  rw [Tryd.params4] at hA hval
  obtain ⟨v0, v1, d0, d1, p0, p1, rfl, rfl, rfl, h0, h1⟩ := trodAll_two hA
  obtain ⟨rfl, rfl⟩ := trodVars_none hV
  have k0 := hval 0 9 v0 rfl rfl
  obtain ⟨s, rfl⟩ := okWide_string Tryd.underlying9 k0
  obtain ⟨s1, l1, r1, rfl⟩ := okWide_slice Tryd.underlying34 (hval 1 34 v1 rfl rfl)
  obtain ⟨n0, g0⟩ := h0
  obtain ⟨n1, g1⟩ := h1
  obtain ⟨s', e1, hx1, hsl⟩ := DataW.trod_string Tryd.underlying9 g0
  obtain rfl : s = s' := by simpa [Value.cells] using e1
  obtain ⟨ls, hls⟩ := open_intsF (show DataW.trod enc Tryd.prog W 0 (fun _ => true) true n1 34 [.slice s1 l1 r1] = _ from g1)
  have hL' : laidMet Tryd.prog Rows.flowBlanksRow.laid W := by rw [← MakeChecks.laidMetH_plain _ _ _ (by kernel_rfl)]; exact hL
  clear hA0
  refine (blanks_any s _ ls W hls (fenv_of hL') hsl).mono fun e W' ⟨he, hbl⟩ => ?_
  subst he
  refine ⟨_, rfl, _, _, _, [], p0 ++ p1, [], hW', trodAll_mk1 (shut_bool Tryd.underlying4 _), ?_, rfl, hbl.frame _, fun h => by cases h⟩
  have lo : laidOutB Tryd.prog = true := by kernel_rfl
  exact trodAll_mk2 (Below.trod lo (by kernel_rfl) (of_decide_eq_true (by kernel_rfl)) ⟨n0, g0⟩ hbl (DataW.trod_lt n0 _ _ _ g0)) (Below.trod lo (by kernel_rfl) (of_decide_eq_true (by kernel_rfl)) ⟨n1, g1⟩ hbl (DataW.trod_lt n1 _ _ _ g1))

set_option maxRecDepth 100000 in
theorem liftedBlanks (os : Os) (started : os.Started) (H : Type) (enc : TypeId × Value → H) (F : Stop.Interp) :
    ReturnsInHanded {} Tryd.checked os 4 .any ((OpenSpec.ofChange Rows.flowBlanksSpec).preRow enc Tryd.prog Tryd.f4 Rows.flowBlanksRow.domain false Rows.flowBlanksRow.laid) (((OpenSpec.ofChange Rows.flowBlanksSpec).at F).post enc Tryd.prog Tryd.f4 false true false false) := by
  refine returnsInHanded_of_row (C := Tryd.checked) (s := OpenSpec.ofChange Rows.flowBlanksSpec) ownF started (by kernel_rfl) Tryd.func4
    (ChangeSpec.witness_shaped (enc := enc) (C := Tryd.checked) (os := os) (fn := Tryd.f4) (s := Rows.flowBlanksSpec) (conds := Rows.flowBlanksRow.domain) (apart := false) (X := fun w _ => laidMetH Tryd.prog Rows.flowBlanksRow.laid w) false (World.laidAll Tryd.prog os Rows.flowBlanksRow.laid) #[.string ⟨#[]⟩, .slice none 0 0] 8 (World.laidAll_os _ _ _)
      (World.shaped_of_ZipB (by kernel_rfl) (by kernel_rfl)) (by kernel_rfl) (by kernel_rfl) (by kernel_rfl)
      (by rw [MakeChecks.laidMetH_plain _ _ _ (by kernel_rfl)]; exact laidMet_laidAll _ (by kernel_rfl) (by kernel_rfl))) ?_
  intro W base args ds gs before hval hW _ _ _ hL hsh _
  exact contractBlanks H enc W base args ds gs before hval hW hL

theorem saidBlanks : Rows.FlowBlanksSaid :=
  OpenClaim.holds_of_cond 4 Tryd.f4 rfl rfl rfl rfl rfl rfl rfl ⟨rfl, rfl, rfl, rfl, rfl⟩ rfl rfl rfl rfl rfl (by kernel_rfl) Tryd.func4 (by kernel_rfl)
    (of_decide_eq_true (by kernel_rfl)) (by unfold Func.isWrapper; first | (rw [if_pos (by decide +kernel)]; kernel_rfl) | (rw [if_neg (by decide +kernel)]; exact ⟨rfl, rfl⟩))
    (fun os started H enc _ F => by rw [OpenClaim.pre_eq_preRow]; exact liftedBlanks os started H enc F)

theorem plainBlanks (f : FuncId) (fn : Func) (hf : Tryd.pinned.checked.prog.funcNamed "foreman/foremankeep.FlowBlanks" = some f) (hfn : Tryd.pinned.checked.prog.funcs[f]? = some fn) :
    true = Tryd.pinned.checked.prog.looks [] ∧ ∀ (j : Nat) t, fn.params[j]? = some t → Tryd.pinned.checked.prog.wantsStandIn t = false := by
  obtain rfl : f = 4 := Option.some.inj ((show Tryd.prog.funcNamed "foreman/foremankeep.FlowBlanks" = some 4 by kernel_rfl).symm.trans hf) |>.symm
  obtain rfl : fn = Tryd.f4 := (Option.some.inj (Tryd.func4.symm.trans hfn)).symm
  refine ⟨by kernel_rfl, fun j t ht => ?_⟩
  rw [Tryd.params4] at ht
  have hm := Array.mem_of_getElem? ht
  simp only [List.mem_toArray, List.mem_cons, List.not_mem_nil, or_false] at hm
  rcases hm with rfl | rfl
  · exact (show Tryd.prog.wantsStandIn 9 = false by kernel_rfl)
  · exact (show Tryd.prog.wantsStandIn 34 = false by kernel_rfl)

/-- The card. -/
theorem cardBlanks : Rows.FlowBlanksCardSaid :=
  Claim7.holds_tied_plain_at .later [] _ _ _ _ saidBlanks (fun _ h => by cases h) (by kernel_rfl) (fun _ h => by cases h) flowBlanks_row_tie rfl ⟨rfl, rfl⟩ (by kernel_rfl) rfl plainBlanks (by kernel_rfl)
end Go.Proofs.YtajkjhkjgibcfaaDoor

