import Derived.Test.YtedflhiflomoeaaGreatDoorRefH
set_option linter.unusedSimpArgs false
set_option linter.unusedVariables false
namespace Go.Proofs.YtedflhiflomoeaaGreatDoor
open Go.RowKit

theorem low_any (c : UInt8) (w : World) : Calls Tryz.prog 23 #[.int .u8 (c.toNat : Int)] w fun e w' => e = .returned (.bool (lowB c)) ∧ w' = w := by
  have hb : lowB c = (decide (97 ≤ (c.toNat : Int)) && decide ((c.toNat : Int) ≤ 122)) := by
    unfold lowB
    rw [Bool.eq_iff_iff]
    simp only [Bool.and_eq_true, decide_eq_true_eq]
    omega
  rw [hb]
  generalize (c.toNat : Int) = C
  by_cases h : 97 ≤ C
  · rw [decide_eq_true h, Bool.true_and]
    go_enter Tryz.func23, Tryz.ntmps23
    go_wp2
    go_ret
    exact ⟨rfl, rfl⟩
  · rw [decide_eq_false h, Bool.false_and]
    have h' : C < 97 := by omega
    go_enter Tryz.func23, Tryz.ntmps23
    go_wp2
    go_ret
    exact ⟨rfl, rfl⟩
theorem dig_any (c : UInt8) (w : World) : Calls Tryz.prog 24 #[.int .u8 (c.toNat : Int)] w fun e w' => e = .returned (.bool (digB c)) ∧ w' = w := by
  have hb : digB c = (decide (48 ≤ (c.toNat : Int)) && decide ((c.toNat : Int) ≤ 57)) := by
    unfold digB
    rw [Bool.eq_iff_iff]
    simp only [Bool.and_eq_true, decide_eq_true_eq]
    omega
  rw [hb]
  generalize (c.toNat : Int) = C
  by_cases h : 48 ≤ C
  · rw [decide_eq_true h, Bool.true_and]
    go_enter Tryz.func24, Tryz.ntmps24
    go_wp2
    go_ret
    exact ⟨rfl, rfl⟩
  · rw [decide_eq_false h, Bool.false_and]
    have h' : C < 48 := by omega
    go_enter Tryz.func24, Tryz.ntmps24
    go_wp2
    go_ret
    exact ⟨rfl, rfl⟩
/-- What is still to come of a text's tokens. -/
def contT (s : By) (i : Nat) (acc : List Tk) (g : Nat) : Except (Int × Nat) (List Tk) := match toksL g (s.drop i) i acc.length with
  | .ok ts => .ok (acc ++ ts ++ [(4, [], s.length)])
  | .error e => .error e
theorem cont_start (s : By) : tokensL s = contT s 0 [] (s.length + 1) := by
  unfold tokensL contT
  rw [List.drop_zero]
  show _ = match toksL (s.length + 1) s 0 0 with | .ok ts => _ | .error e => _
  cases toksL (s.length + 1) s 0 0 <;> simp
theorem cont_end (s : By) (acc : List Tk) (g : Nat) : contT s s.length acc (g + 1) = .ok (acc ++ [(4, [], s.length)]) := by
  unfold contT
  rw [List.drop_length, tok_step, if_pos (by simp)]
  simp
theorem drop_cons {s : By} {i : Nat} (h : i < s.length) : s.drop i = s[i] :: s.drop (i + 1) := List.drop_eq_getElem_cons h
theorem cont_blank {s : By} {i : Nat} (h : i < s.length) (acc : List Tk) (g : Nat) (hb : blankB s[i] = true) : contT s i acc (g + 1) = contT s (i + 1) acc (g + 1) := by
  unfold contT
  have hr : runL blankB (s.drop i) = runL blankB (s.drop (i + 1)) + 1 := by
    rw [drop_cons h]
    unfold runL
    rw [List.takeWhile_cons_of_pos hb]
    rfl
  have hd : (s.drop i).drop (runL blankB (s.drop i)) = (s.drop (i + 1)).drop (runL blankB (s.drop (i + 1))) := by
    rw [hr, List.drop_drop, List.drop_drop]
    congr 1
    omega
  rw [tok_step, tok_step, hd, hr, show i + (runL blankB (s.drop (i + 1)) + 1) = i + 1 + runL blankB (s.drop (i + 1)) by omega]
theorem run_no {s : By} {i : Nat} (h : i < s.length) (hb : blankB s[i] = false) : runL blankB (s.drop i) = 0 := by
  rw [drop_cons h]
  unfold runL
  rw [List.takeWhile_cons_of_neg (by simp [hb])]
  rfl
theorem drop_ne {s : By} {i : Nat} (h : i < s.length) : ¬ s.drop i = [] := fun e => by
  have := drop_cons h
  rw [e] at this
  cases this
theorem cont_none {s : By} {i : Nat} (h : i < s.length) (acc : List Tk) (g : Nat) (hb : blankB s[i] = false) (hf : firstL (s.drop i) = none) : contT s i acc (g + 1) = .error (3, i) := by
  unfold contT
  rw [tok_step, run_no h hb, List.drop_zero, if_neg (drop_ne h), hf]
  rfl
theorem cont_limit {s : By} {i : Nat} (h : i < s.length) (acc : List Tk) (g : Nat) (hb : blankB s[i] = false) {k n : Nat} (hf : firstL (s.drop i) = some (k, n)) (hl : acc.length = 400) : contT s i acc (g + 1) = .error (4, i) := by
  unfold contT
  rw [tok_step, run_no h hb, List.drop_zero, if_neg (drop_ne h), hf]
  simp [hl]
theorem cont_tok {s : By} {i : Nat} (h : i < s.length) (acc : List Tk) (g : Nat) (hb : blankB s[i] = false) {k n : Nat} (hf : firstL (s.drop i) = some (k, n)) (hl : acc.length ≠ 400) : contT s i acc (g + 1) = contT s (i + n) (acc ++ [(k, (s.drop i).take n, i)]) g := by
  unfold contT
  rw [tok_step, run_no h hb, List.drop_zero, if_neg (drop_ne h), hf]
  simp only [hl, if_false, Nat.add_zero, List.drop_drop, List.length_append, List.length_singleton]
  cases toksL g (s.drop (i + n)) (i + n) (acc.length + 1) <;> simp
theorem rfirst_low {s : By} {i : Nat} (h : i < s.length) (hc : lowB s[i] = true) : firstL (s.drop i) = some (0, runL lowdigB (s.drop i)) := by
  rw [drop_cons h]
  simp only [firstL]
  rw [if_pos hc]
theorem rfirst_dig {s : By} {i : Nat} (h : i < s.length) (hl : lowB s[i] = false) (hc : digB s[i] = true) : firstL (s.drop i) = some (1, runL digB (s.drop i)) := by
  rw [drop_cons h]
  simp only [firstL]
  rw [if_neg (by simp [hl]), if_pos hc]
theorem rfirst_quo {s : By} {i : Nat} (h : i < s.length) (hl : lowB s[i] = false) (hd : digB s[i] = false) (hc : s[i] = 39) : firstL (s.drop i) = ((s.drop (i + 1)).findIdx? (· == 39)).map fun n => (2, n + 2) := by
  rw [drop_cons h]
  simp only [firstL]
  rw [if_neg (by simp [hl]), if_neg (by simp [hd]), if_pos (by simp [hc])]
theorem rfirst_mark {s : By} {i : Nat} (h : i < s.length) (hl : lowB s[i] = false) (hd : digB s[i] = false) (hc : s[i] ≠ 39) : firstL (s.drop i) = (marksL.find? fun m => m.isPrefixOf (s.drop i)).map fun m => (3, m.length) := by
  rw [drop_cons h]
  simp only [firstL]
  rw [if_neg (by simp [hl]), if_neg (by simp [hd]), if_neg (by simp [hc])]
/-- How far a run goes. -/
theorem run_step {p : UInt8 → Bool} {s : By} {k : Nat} (h : k < s.length) (hp : p s[k] = true) : runL p (s.drop k) = runL p (s.drop (k + 1)) + 1 := by
  rw [drop_cons h]
  unfold runL
  rw [List.takeWhile_cons_of_pos hp]
  rfl
theorem run_stop {p : UInt8 → Bool} {s : By} {k : Nat} (h : k < s.length) (hp : p s[k] = false) : runL p (s.drop k) = 0 := by
  rw [drop_cons h]
  unfold runL
  rw [List.takeWhile_cons_of_neg (by simp [hp])]
  rfl
theorem run_allR {p : UInt8 → Bool} {s : By} : runL p (s.drop s.length) = 0 := by
  rw [List.drop_length]; rfl
/-- Is there a mark of that length? -/
def markB (x : By) (n : Nat) (l : List By) : Bool := l.any fun m => decide (m.length = n) && m.isPrefixOf x
theorem markB_step (x : By) (n j : Nat) (h : j < marksL.length) : markB x n (marksL.take (j + 1)) = (markB x n (marksL.take j) || (decide (marksL[j].length = n) && marksL[j].isPrefixOf x)) := by
  unfold markB
  rw [List.take_succ_eq_append_getElem h, List.any_append]
  simp
theorem mark_len (x : By) : ((marksL.find? fun m => m.isPrefixOf x).map fun m => m.length) = if markB x 2 marksL then some 2 else if markB x 1 marksL then some 1 else none := by
  unfold markB marksL
  simp only [List.any_cons, List.any_nil, List.find?_cons, List.length_cons, List.length_nil, Bool.or_false]
  generalize List.isPrefixOf [60, 62] x = a1
  generalize List.isPrefixOf [60, 61] x = a2
  generalize List.isPrefixOf [62, 61] x = a3
  generalize List.isPrefixOf [60] x = a4
  generalize List.isPrefixOf [62] x = a5
  generalize List.isPrefixOf [61] x = a6
  generalize List.isPrefixOf [43] x = a7
  generalize List.isPrefixOf [45] x = a8
  generalize List.isPrefixOf [42] x = a9
  generalize List.isPrefixOf [44] x = b1
  generalize List.isPrefixOf [59] x = b2
  generalize List.isPrefixOf [58] x = b3
  generalize List.isPrefixOf [46] x = b4
  cases a1 <;> cases a2 <;> cases a3 <;> simp <;> cases a4 <;> simp <;> cases a5 <;> simp <;> cases a6 <;> simp <;> cases a7 <;> simp <;> cases a8 <;> simp <;> cases a9 <;> simp <;> cases b1 <;> simp <;> cases b2 <;> simp <;> cases b3 <;> simp <;> cases b4 <;> simp
set_option maxRecDepth 100000 in
theorem split_marks (w : World) (hE : REnv w) : Calls Tryz.prog 26 #[.string ⟨#[60, 62, 32, 60, 61, 32, 62, 61, 32, 60, 32, 62, 32, 61, 32, 43, 32, 45, 32, 42, 32, 44, 32, 59, 32, 58, 32, 46]⟩, .string ⟨#[32]⟩] w fun e w' => e = .returned (.slice (some ⟨w.heap.size, 0, none⟩) 13 13) ∧ w' = w.alloc (.cells (marksL.map fun m => Value.string (ba m)).toArray 9) := by
  obtain ⟨m, hm⟩ := hE.ml
  refine (Tryz.strings_Split ⟨#[60, 62, 32, 60, 61, 32, 62, 61, 32, 60, 32, 62, 32, 61, 32, 43, 32, 45, 32, 42, 32, 44, 32, 59, 32, 58, 32, 46]⟩ ⟨#[32]⟩ m w (by decide) hm (by decide)).mono ?_
  rintro e w' ⟨rfl, rfl⟩
  exact ⟨by kernel_rfl, by kernel_rfl⟩
end Go.Proofs.YtedflhiflomoeaaGreatDoor
