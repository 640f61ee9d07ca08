import Derived.Test.YtedflhiflomoeaaGreatDoorRefG
set_option linter.unusedSimpArgs false
set_option linter.unusedVariables false
namespace Go.Proofs.YtedflhiflomoeaaGreatDoor
open Go.RowKit

theorem take_head {w : World} {R : Nat} {ts : List Tk} {bad : Bd} (h : RF w R ts bad) : ∃ t, t ∈ ts ∧ kindT (takeT [45] ts bad) = t.1 ∧ textT (takeT [45] ts bad) = t.2.1 := by
  unfold takeT
  cases hs : seeB [45] ts bad with
  | false =>
    rw [if_neg (by simp)]
    obtain ⟨t, r, rfl⟩ := h.good.ne
    exact ⟨t, by simp, rfl, rfl⟩
  | true =>
    rw [if_pos rfl]
    unfold seeB at hs
    simp only [Bool.and_eq_true, beq_iff_eq] at hs
    obtain ⟨t, r, rfl⟩ := h.good.ne
    have hg := h.good.tail (Or.inr (by rw [show t.2.1 = [45] from hs.2]; simp))
    obtain ⟨t2, r2, rfl⟩ := hg.ne
    exact ⟨t2, by simp, rfl, rfl⟩
theorem argr_core (R : Nat) (ts : List Tk) (bad : Bd) (w : World) (h : RF w R ts bad) (hf : bad = none → kindT ts ≠ 0) : Calls Tryz.prog 49 #[.pointer (some ⟨R, 0, none⟩)] w fun e w' => ∃ x bad2, ArgOut (seeB [45] ts bad) (takeT [45] ts bad) bad x bad2 ∧ e = .returned (.agg #[.string ⟨#[]⟩, .int .i64 x.1, .int .i64 x.2.1, .string (ba x.2.2)]) ∧ But R w w' ∧ RF w' R (if bad2.isNone then (takeT [45] ts bad).tail else takeT [45] ts bad) bad2 := by
  obtain ⟨t, htm, hk, hx⟩ := take_head h
  have hT := h.end4 t htm
  generalize ht : takeT [45] ts bad = ts1 at *
  cases bad with
  | none =>
    cases hm : seeB [45] ts none with
    | true =>
      by_cases h1 : kindT ts1 = 1
      · by_cases hok : okN (textT ts1)
        · cases hr : rightValueB 1 (-atoiN (textT ts1)) [] with
          | true => exact argr_none_t_N1r R ts ts1 w h (hf rfl) hm ht h1 hok hr
          | false => exact argr_none_t_N1n R ts ts1 w h (hf rfl) hm ht h1 hok hr
        · exact argr_none_t_N2 R ts ts1 w h (hf rfl) hm ht h1 hok
      · by_cases h2 : kindT ts1 = 2
        · exact argr_none_t_E R ts ts1 w h (hf rfl) hm ht h2
        · exact argr_none_t_D R ts ts1 w h (hf rfl) hm ht h1 h2
    | false =>
      by_cases h1 : kindT ts1 = 1
      · by_cases hok : okN (textT ts1)
        · cases hr : rightValueB 1 (atoiN (textT ts1)) [] with
          | true => exact argr_none_f_N1r R ts ts1 w h (hf rfl) hm ht h1 hok hr
          | false => exact argr_none_f_N1n R ts ts1 w h (hf rfl) hm ht h1 hok hr
        · exact argr_none_f_N2 R ts ts1 w h (hf rfl) hm ht h1 hok
      · by_cases h2 : kindT ts1 = 2
        · obtain ⟨s, hs, hq⟩ := hT.2.2 (by rw [← hk]; exact h2)
          have htx : textT ts1 = 39 :: s ++ [39] := hx.trans hs
          cases hr : rightValueB 2 0 s with
          | true => exact argr_none_f_Qr R ts ts1 w h (hf rfl) hm ht s h2 htx hq hr
          | false => exact argr_none_f_Qn R ts ts1 w h (hf rfl) hm ht s h2 htx hq hr
        · exact argr_none_f_D R ts ts1 w h (hf rfl) hm ht h1 h2
  | some er =>
    have hm : seeB [45] ts (some er) = false := rfl
    rw [hm]
    by_cases h1 : kindT ts1 = 1
    · by_cases hok : okN (textT ts1)
      · cases hr : rightValueB 1 (atoiN (textT ts1)) [] with
        | true => exact argr_some_f_N1r R ts ts1 er w h hm ht h1 hok hr
        | false => exact argr_some_f_N1n R ts ts1 er w h hm ht h1 hok hr
      · exact argr_some_f_N2 R ts ts1 er w h hm ht h1 hok
    · by_cases h2 : kindT ts1 = 2
      · obtain ⟨s, hs, hq⟩ := hT.2.2 (by rw [← hk]; exact h2)
        have htx : textT ts1 = 39 :: s ++ [39] := hx.trans hs
        cases hr : rightValueB 2 0 s with
        | true => exact argr_some_f_Qr R ts ts1 er w h hm ht s h2 htx hq hr
        | false => exact argr_some_f_Qn R ts ts1 er w h hm ht s h2 htx hq hr
      · exact argr_some_f_D R ts ts1 er w h hm ht h1 h2
theorem orB_some (b : Bool) (c : Int) (ts : List Tk) (er : Int × Nat) : orB b c ts (some er) = some er := by cases b <;> rfl
theorem out_some {m : Bool} {ts1 : List Tk} {er : Int × Nat} {x : Int × Int × By} {bad2 : Bd} (h : ArgOut m ts1 (some er) x bad2) : bad2 = some er := by
  rcases h with ⟨-, -, -, h⟩ | ⟨-, -, -, -, h⟩ | ⟨-, -, s, -, -, -, h⟩ | ⟨-, -, -, h⟩
  · rw [h]; exact orB_some _ _ _ _
  · exact h
  · rw [h]; exact orB_some _ _ _ _
  · exact h
theorem right_num (n : Int) (h : 0 ≤ n) : rightValueB 1 n [] = decide (n ≤ 1000000000) ∧ rightValueB 1 (-n) [] = decide (n ≤ 1000000000) := by
  unfold rightValueB
  rw [if_pos rfl, if_pos rfl]
  refine ⟨?_, ?_⟩
  · rw [decide_eq_true (show -1000000000 ≤ n by omega)]; simp
  · rw [decide_eq_true (show -n ≤ 1000000000 by omega)]
    simp
theorem inner_quo (s : By) : innerL (39 :: s ++ [39]) = s := by
  unfold innerL
  simp
/-- What the number at the tokens is. -/
theorem num_out {m : Bool} {ts1 : List Tk} {x : Int × Int × By} {bad2 : Bd} (h : ArgOut m ts1 none x bad2) (hq : kindT ts1 = 2 → m = true) (h0 : kindT ts1 = 1 → 0 ≤ atoiN (textT ts1)) (hn : kindT ts1 = 1 → ¬ okN (textT ts1) → atoiN (textT ts1) = 9223372036854775807) :
    (bad2 = none → numP 1000000000 ts1 = .ok (atoiN (textT ts1), ts1.tail) ∧ x = (1, (if m then -atoiN (textT ts1) else atoiN (textT ts1)), [])) ∧ (∀ e, bad2 = some e → numP 1000000000 ts1 = .error e) := by
  rcases h with ⟨hk, hok, hx, hb⟩ | ⟨hk, hok, -, -, hb⟩ | ⟨hk, hm, -⟩ | ⟨hk, -, -, hb⟩
  · have hr : rightValueB 1 (if m = true then -atoiN (textT ts1) else atoiN (textT ts1)) [] = decide (atoiN (textT ts1) ≤ 1000000000) := by
      have := right_num (atoiN (textT ts1)) (h0 hk)
      cases m with
      | true => exact this.2
      | false => exact this.1
    rw [hr] at hb
    unfold numP
    rw [if_neg (by simp [hk])]
    by_cases hle : atoiN (textT ts1) ≤ 1000000000
    · rw [decide_eq_true hle] at hb
      rw [if_neg (by omega)]
      refine ⟨fun _ => ⟨rfl, hx⟩, fun e he => ?_⟩
      rw [hb] at he; cases he
    · rw [decide_eq_false hle] at hb
      rw [if_pos (by omega)]
      refine ⟨fun he => ?_, fun e he => ?_⟩
      · rw [hb] at he; cases he
      · rw [hb] at he
        cases he
        rfl
  · unfold numP
    rw [if_neg (by simp [hk]), if_pos (by have := hn hk hok; omega)]
    refine ⟨fun he => ?_, fun e he => ?_⟩
    · rw [hb] at he; cases he
    · rw [hb] at he; cases he; rfl
  · have := hq hk
    rw [hm] at this
    cases this
  · unfold numP
    rw [if_pos hk]
    refine ⟨fun he => ?_, fun e he => ?_⟩
    · rw [hb] at he; cases he
    · rw [hb] at he; cases he; rfl
theorem arg_out {w : World} {R : Nat} {ts : List Tk} (hr : RF w R ts none) (hk0 : kindT ts ≠ 0) {x : Int × Int × By} {bad2 : Bd} (h : ArgOut (seeB [45] ts none) (takeT [45] ts none) none x bad2) :
    (bad2 = none → argP ts = .ok (([], x.1, x.2.1, x.2.2), (takeT [45] ts none).tail)) ∧ (∀ e, bad2 = some e → argP ts = .error e) := by
  obtain ⟨t, htm, hk, hx⟩ := take_head hr
  have hT := hr.end4 t htm
  have hsm := hr.good.small t htm
  have h0 : kindT (takeT [45] ts none) = 1 → 0 ≤ atoiN (textT (takeT [45] ts none)) := fun e => by
    rw [hx]; exact atoi_pos (hsm.2.2.2.2 (by rw [← hk]; exact e))
  have hn : kindT (takeT [45] ts none) = 1 → ¬ okN (textT (takeT [45] ts none)) → atoiN (textT (takeT [45] ts none)) = 9223372036854775807 := fun e hno => by
    rw [hx] at hno ⊢
    exact range_not hno (hT.2.1 (by rw [← hk]; exact e)) (hsm.2.2.2.2 (by rw [← hk]; exact e))
  unfold argP
  rw [if_neg hk0]
  by_cases hm : textT ts = [45]
  · have hsb : seeB [45] ts none = true := by simp [seeB, hm]
    have htk : takeT [45] ts none = ts.tail := by unfold takeT; rw [if_pos hsb]
    have h2 : kindT ts ≠ 2 := fun e => by
      obtain ⟨t', r, rfl⟩ := hr.good.ne
      obtain ⟨s, hs, -⟩ := (hr.end4 t' (by simp)).2.2 e
      rw [show t'.2.1 = [45] from hm] at hs
      simp at hs
    rw [hsb] at h
    obtain ⟨a, b⟩ := num_out h (fun _ => rfl) h0 hn
    rw [if_neg h2, if_pos hm]
    rw [htk] at a b ⊢
    refine ⟨fun e => ?_, fun e he => ?_⟩
    · obtain ⟨a1, a2⟩ := a e
      rw [a1, a2]
      rfl
    · rw [b e he]; rfl
  · have hsb : seeB [45] ts none = false := by simp [seeB, hm]
    have htk : takeT [45] ts none = ts := by unfold takeT; rw [if_neg (by rw [hsb]; simp)]
    rw [hsb] at h
    by_cases h2 : kindT ts = 2
    · rw [if_pos h2]
      rw [htk] at h ⊢
      rcases h with ⟨hk, -⟩ | ⟨hk, -⟩ | ⟨-, -, s, hs, hq, rfl, hb⟩ | ⟨-, hq, -⟩
      · rw [h2] at hk; cases hk
      · rw [h2] at hk; cases hk
      · unfold quoP
        rw [if_neg (by simp [h2]), hs, inner_quo]
        cases hrv : rightValueB 2 0 s with
        | true =>
          rw [hrv] at hb
          rw [if_neg (by simp)]
          refine ⟨fun _ => rfl, fun e he => ?_⟩
          rw [hb] at he; cases he
        | false =>
          rw [hrv] at hb
          rw [if_pos rfl]
          refine ⟨fun he => ?_, fun e he => ?_⟩
          · rw [hb] at he; cases he
          · rw [hb] at he; cases he; rfl
      · have := hq h2
        cases this
    · rw [if_neg h2, if_neg hm]
      obtain ⟨a, b⟩ := num_out h (fun e => absurd (by rw [htk] at e; exact e) h2) h0 hn
      rw [htk] at a b ⊢
      refine ⟨fun e => ?_, fun e he => ?_⟩
      · obtain ⟨a1, a2⟩ := a e
        rw [a1, a2]
        rfl
      · rw [b e he]; rfl
theorem argr_any (R : Nat) (q : QS) (w : World) (h : RX w R q) : Calls Tryz.prog 49 #[.pointer (some ⟨R, 0, none⟩)] w fun e w' => RC (q.bind argP) encA shpA R w e w' := by
  obtain ⟨ts, bad, hh, rfl⟩ := h.at
  cases bad with
  | none =>
    by_cases hk : kindT ts = 0
    · exact argr_word R ts w hh hk
    · refine (argr_core R ts none w hh (fun _ => hk)).mono ?_
      rintro e w' ⟨x, bad2, ho, rfl, hb, hrf⟩
      obtain ⟨a, b⟩ := arg_out hh hk ho
      refine ⟨_, rfl, ⟨[], x.1, x.2.1, x.2.2, rfl⟩, hb, fun y t he => ?_, ?_⟩
      · change argP ts = _ at he
        cases bad2 with
        | none =>
          rw [a rfl] at he
          cases he
          rfl
        | some e => rw [b e rfl] at he; cases he
      · show RX w' R ((argP ts).map (·.2))
        cases bad2 with
        | none => rw [a rfl]; exact hrf
        | some e => rw [b e rfl]; exact ⟨_, hrf⟩
  | some er =>
    refine (argr_core R ts (some er) w hh (fun e => by cases e)).mono ?_
    rintro e w' ⟨x, bad2, ho, rfl, hb, hrf⟩
    obtain rfl := out_some ho
    refine ⟨_, rfl, ⟨[], x.1, x.2.1, x.2.2, rfl⟩, hb, fun y t he => ?_, ?_⟩
    · cases he
    · exact ⟨_, hrf⟩
end Go.Proofs.YtedflhiflomoeaaGreatDoor
