import Derived.Test.YtkdbidcofamkcaaGreatDoorMathC
set_option linter.unusedSimpArgs false
set_option linter.unusedVariables false
namespace Go.Proofs.YtkdbidcofamkcaaGreatDoor
open Go.RowKit

theorem itoa_bytes (n : Int) : ∀ c ∈ Lib.itoa n, c ≠ 39 ∧ c ≠ 32 ∧ c ≠ 10 := by
  have key : ∀ c : UInt8, 48 ≤ c.toNat ∧ c.toNat ≤ 57 → c ≠ 39 ∧ c ≠ 32 ∧ c ≠ 10 := by
    intro c h
    refine ⟨?_, ?_, ?_⟩ <;> (intro e; subst e; revert h; decide)
  intro c hc
  unfold Lib.itoa at hc
  split at hc
  · rcases List.mem_cons.1 hc with rfl | hc
    · decide
    · exact key c (dec_digits _ c hc)
  · exact key c (dec_digits _ c hc)
theorem word_bytes {l : List UInt8} (h : rightWordB l = true) : ∀ c ∈ l, c ≠ 39 ∧ c ≠ 10 := by
  intro c hc
  simp only [rightWordB, Bool.and_eq_true] at h
  have := allI_mem h.2 hc
  refine ⟨?_, ?_⟩ <;> (intro e; subst e; revert this; decide)
theorem right_word {n : Int} {l : List UInt8} (h : rightValueB 2 n l = true) : rightWordB l = true := by
  simp [rightValueB] at h; exact h.1
theorem tx_bytes {v : V3} (h : rightValueB v.1 v.2.1 v.2.2 = true) : ∀ c ∈ tx v, c ≠ 10 := by
  obtain ⟨k, n, l⟩ := v
  intro c hc
  rcases right_kind h with ⟨hk, hl⟩ | ⟨hk, hn⟩
  · simp only at hk hl; subst hk; subst hl
    simp only [tx, valueL, if_true] at hc
    exact (itoa_bytes n c hc).2.2
  · simp only at hk hn; subst hk; subst hn
    simp only [tx, valueL] at hc
    rw [if_neg (by decide)] at hc
    rcases List.mem_cons.1 hc with rfl | hc
    · decide
    · rcases List.mem_append.1 hc with hc | hc
      · exact (word_bytes (right_word h) c hc).2
      · simp at hc; rw [hc]; decide

theorem cutV_plain (r : List UInt8) : ∀ (a : List UInt8), (∀ c ∈ a, c ≠ 39 ∧ c ≠ 32) → cutV false (a ++ r) = (a ++ (cutV false r).1, (cutV false r).2)
  | [], _ => rfl
  | c :: a, h => by
    have h1 := h c (by simp)
    have ih := cutV_plain r a (fun x hx => h x (by simp [hx]))
    rw [List.cons_append, cutV, if_neg h1.1, if_neg (fun e => h1.2 e.1), ih]
    rfl
theorem cutV_quoted (r : List UInt8) : ∀ (a : List UInt8), (∀ c ∈ a, c ≠ 39) → cutV true (a ++ r) = (a ++ (cutV true r).1, (cutV true r).2)
  | [], _ => rfl
  | c :: a, h => by
    have h1 := h c (by simp)
    have ih := cutV_quoted r a (fun x hx => h x (by simp [hx]))
    rw [List.cons_append, cutV, if_neg h1, if_neg (fun e => absurd e.2 (by decide)), ih]
    rfl
theorem cutV_tx {v : V3} (h : rightValueB v.1 v.2.1 v.2.2 = true) (r : List UInt8) : cutV false (tx v ++ r) = (tx v ++ (cutV false r).1, (cutV false r).2) := by
  obtain ⟨k, n, l⟩ := v
  rcases right_kind h with ⟨hk, hl⟩ | ⟨hk, hn⟩
  · simp only at hk hl; subst hk; subst hl
    exact cutV_plain r _ (fun c hc => ⟨(itoa_bytes n c hc).1, (itoa_bytes n c hc).2.1⟩)
  · simp only at hk hn; subst hk; subst hn
    have e : tx (2, 0, l) = 39 :: (l ++ [39]) := rfl
    have hq := cutV_quoted (39 :: r) l (fun c hc => (word_bytes (right_word h) c hc).1)
    have h3 : cutV true (39 :: r) = (39 :: (cutV false r).1, (cutV false r).2) := by rw [cutV, if_pos rfl]; rfl
    rw [e, List.cons_append, cutV, if_pos rfl, List.append_assoc]
    show (39 :: (cutV true (l ++ 39 :: r)).1, (cutV true (l ++ 39 :: r)).2) = _
    rw [hq, h3]
    simp
theorem parseV_there {v : V3} (h : rightValueB v.1 v.2.1 v.2.2 = true) : parseV (tx v) = some v := by
  have hr : readV (tx v) = v := by
    obtain ⟨k, n, l⟩ := v
    have hs := right_small h
    rcases right_kind h with ⟨hk, hl⟩ | ⟨hk, hn⟩
    · simp only at hk hl; subst hk; subst hl
      obtain ⟨c, r, hc, hne⟩ := itoa_head n
      have hp : Lib.hasPrefix (Lib.itoa n) [39] = false := by
        rw [hc]; simp [Lib.hasPrefix, List.isPrefixOf]; exact fun e => hne e.symm
      show readV (Lib.itoa n) = _
      unfold readV
      rw [hp, atoi_itoa n hs.2.1 hs.2.2]
      rfl
    · simp only at hk hn; subst hk; subst hn
      show readV (39 :: (l ++ [39])) = _
      unfold readV
      have hp : Lib.hasPrefix (39 :: (l ++ [39])) [39] = true := by simp [Lib.hasPrefix]
      rw [hp]
      have ht : Lib.trimSuffix ((39 :: (l ++ [39])).drop 1) [39] = l := by
        simp [Lib.trimSuffix, Lib.hasSuffix]
      rw [ht]
      rfl
  unfold parseV
  rw [hr, if_pos ⟨h, rfl⟩]
theorem row_there : ∀ (cs : List Cl) (vs : List V3) (more : Bool), vs ≠ [] → rowOK (vs.map vl) cs = true → rowRead cs (Lib.join (vs.map tx) [32]) more = some vs
  | _, [], _, h, _ => absurd rfl h
  | [], v :: vs, _, _, h => by simp [rowOK] at h
  | c :: q, v :: vs, more, _, h => by
    have e : rowOK ((v :: vs).map vl) (c :: q) = ((vl v).1 == c.2 && (rvB (vl v) && rowOK (vs.map vl) q)) := rfl
    rw [e] at h
    simp only [Bool.and_eq_true, beq_iff_eq] at h
    obtain ⟨hk, hv, hr⟩ := h
    have hv' : rightValueB v.1 v.2.1 v.2.2 = true := hv
    cases vs with
    | nil =>
      cases q with
      | cons d q => simp [rowOK] at hr
      | nil =>
        have hc := cutV_tx hv' []
        rw [List.append_nil] at hc
        simp only [List.map_cons, List.map_nil]
        rw [Lib.join_one]
        unfold rowRead
        rw [hc]
        simp only [cutV, List.append_nil]
        rw [parseV_there hv']
        simp only
        rw [if_pos (show v.1 = c.2 from hk)]
        rfl
    | cons v2 vs =>
      have ih := row_there q (v2 :: vs) true (by simp) hr
      have hc := cutV_tx hv' (32 :: Lib.join ((v2 :: vs).map tx) [32])
      have hb : cutV false (32 :: Lib.join ((v2 :: vs).map tx) [32]) = ([], Lib.join ((v2 :: vs).map tx) [32], true) := by rw [cutV, if_neg (by decide), if_pos ⟨rfl, rfl⟩]
      rw [hb, List.append_nil] at hc
      have hj : Lib.join ((v :: v2 :: vs).map tx) [32] = tx v ++ 32 :: Lib.join ((v2 :: vs).map tx) [32] := join_two _ _ _
      rw [hj]
      unfold rowRead
      rw [hc]
      simp only
      rw [parseV_there hv']
      simp only
      rw [if_pos (show v.1 = c.2 from hk), ih]
      rfl

theorem join_no : ∀ (xs : List (List UInt8)), (∀ x ∈ xs, (10 : UInt8) ∉ x) → (10 : UInt8) ∉ Lib.join xs [32]
  | [], _ => by simp [Lib.join]
  | [x], h => by rw [Lib.join_one]; exact h x (by simp)
  | x :: y :: r, h => by
    have ih := join_no (y :: r) (fun z hz => h z (by simp at hz ⊢; exact Or.inr hz))
    rw [join_two, List.mem_append, List.mem_cons]
    rintro (h1 | h1 | h1)
    · exact h x (by simp) h1
    · exact absurd h1 (by decide)
    · exact ih h1
theorem rowOK_tx {cs : List Cl} {r : List V3} (h : rowOK (r.map vl) cs = true) : ∀ x ∈ r.map tx, (10 : UInt8) ∉ x := by
  intro x hx
  rw [List.mem_map] at hx
  obtain ⟨v, hv, rfl⟩ := hx
  exact fun hm => tx_bytes (rowOK_each _ _ h (vl v) (List.mem_map.2 ⟨v, hv, rfl⟩)) 10 hm rfl
theorem rowOK_ne {cs : List Cl} {r : List V3} (hcs : cs ≠ []) (h : rowOK (r.map vl) cs = true) : r ≠ [] := by
  intro e
  subst e
  cases cs with
  | nil => exact hcs rfl
  | cons c q => simp [rowOK] at h
theorem lines_there (cs : List Cl) (hcs : cs ≠ []) : ∀ (new acc : List (List V3)) (f : Nat), (∀ r ∈ new, rowOK (r.map vl) cs = true) → acc.length + new.length ≤ 60 → new.length < f → linesRead cs f acc (new.flatMap fun r => rowL (r.map vl)) true = .ok (acc ++ new)
  | [], acc, f + 1, _, _, _ => by simp [linesRead]
  | _, _, 0, _, _, h => absurd h (by omega)
  | r :: new, acc, f + 1, hr, hl, hf => by
    have h0 := hr r (by simp)
    have hj := join_no _ (rowOK_tx h0)
    have ih := lines_there cs hcs new (acc ++ [r]) f (fun x hx => hr x (by simp [hx])) (by simp at hl ⊢; omega) (by simp at hf; omega)
    have e : (r :: new).flatMap (fun r => rowL (r.map vl)) = Lib.join (r.map tx) [32] ++ 10 :: new.flatMap fun r => rowL (r.map vl) := by
      rw [List.flatMap_cons, rowL_vl, lineL]; simp
    rw [e]
    unfold linesRead
    rw [if_pos ⟨rfl, by simp⟩, cut_yes 10 _ _ hj]
    simp only
    rw [row_there cs r false (rowOK_ne hcs h0) h0]
    simp only
    rw [if_neg (by simp at hl; omega), ih]
    simp

theorem rows_unvl (rs : List (List Vl)) : (rs.map (·.map unvl)).map (·.map vl) = rs := by
  rw [List.map_map]
  conv => rhs; rw [← List.map_id rs]
  apply List.map_congr_left
  intro r _
  simp only [Function.comp, List.map_map, id]
  conv => rhs; rw [← List.map_id r]
  apply List.map_congr_left
  intro v _
  exact vl_unvl v
theorem flat_unvl (rs : List (List Vl)) : rs.flatMap rowL = (rs.map (·.map unvl)).flatMap fun r => rowL (r.map vl) := by
  conv => lhs; rw [← rows_unvl rs]
  rw [List.flatMap_map]
theorem flat_len (rs : List (List Vl)) : rs.length ≤ (rs.flatMap rowL).length := by
  induction rs with
  | nil => simp
  | cons r q ih =>
    rw [List.flatMap_cons, List.length_append, List.length_cons]
    have : 1 ≤ (rowL r).length := by simp [rowL, lineL]
    omega
theorem cols_ne {cs : List Cl} (h : rightColsB cs = true) : cs ≠ [] := by
  intro e
  have := rightCols_len h
  rw [e] at this
  simp at this
theorem head_no {cs : List Cl} (h : rightColsB cs = true) : (10 : UInt8) ∉ Lib.join (cs.map fun c => (headB c).data.toList) [32] := by
  apply join_no
  intro x hx
  rw [List.mem_map] at hx
  obtain ⟨c, hc, rfl⟩ := hx
  exact fun hm => (head_bytes (cols_name h c hc) 10 hm).2 rfl
/-- WHAT A TABLE IS WRITTEN AS IS THAT TABLE. -/
theorem write_read {cs : List Cl} {rs : List (List Vl)} (h : rightB cs rs = true) : parseT (printL cs rs) = .ok (cs, rs.map (·.map unvl)) := by
  obtain ⟨hc, hl, hr⟩ := right_cols h
  have e : printL cs rs = Lib.join (cs.map fun c => (headB c).data.toList) [32] ++ 10 :: rs.flatMap rowL := by
    unfold printL headL lineL; simp
  have hx := cut_yes 10 _ (rs.flatMap rowL) (head_no hc)
  rw [← e] at hx
  rw [parseT_of hx, head_there hc, if_pos hc]
  have hf := flat_len rs
  have hlen : (printL cs rs).length = (Lib.join (cs.map fun c => (headB c).data.toList) [32]).length + ((rs.flatMap rowL).length + 1) := by rw [e]; simp
  have := lines_there cs (cols_ne hc) (rs.map (·.map unvl)) [] ((printL cs rs).length + 1) (by
    intro r hr'
    rw [List.mem_map] at hr'
    obtain ⟨r0, hr0, rfl⟩ := hr'
    rw [List.map_map]
    have : r0.map (vl ∘ unvl) = r0 := by
      conv => rhs; rw [← List.map_id r0]
      apply List.map_congr_left
      intro v _
      exact vl_unvl v
    rw [this]
    exact hr r0 hr0) (by simp; exact hl) (by simp; omega)
  rw [← flat_unvl] at this
  rw [this]
  simp
end Go.Proofs.YtkdbidcofamkcaaGreatDoor
