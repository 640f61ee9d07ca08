import Derived.Test.YtkdbidcofamkcaaGreatDoorMathA
set_option linter.unusedSimpArgs false
set_option linter.unusedVariables false
namespace Go.Proofs.YtkdbidcofamkcaaGreatDoor
open Go.RowKit

theorem idx_no (c : UInt8) : ∀ (l : List UInt8), c ∉ l → Lib.index l [c] = -1
  | [], _ => by simp [Lib.index]
  | b :: l, h => by
    rw [List.mem_cons, not_or] at h
    have ih := idx_no c l h.2
    have hb : (c == b) = false := by simpa using h.1
    simp [Lib.index, ih, List.isPrefixOf, hb]
theorem idx_yes (c : UInt8) (b : List UInt8) : ∀ (a : List UInt8), c ∉ a → Lib.index (a ++ c :: b) [c] = a.length
  | [], _ => by simp [Lib.index, List.isPrefixOf]
  | d :: a, h => by
    rw [List.mem_cons, not_or] at h
    have ih := idx_yes c b a h.2
    have hb : (c == d) = false := by simpa using h.1
    rw [List.cons_append, Lib.index]
    simp only [List.isPrefixOf, hb, Bool.false_and, Bool.false_eq_true, if_false, ih]
    rw [if_neg (by simp)]
    simp
theorem mem_split (c : UInt8) : ∀ (l : List UInt8), c ∈ l → ∃ a b, l = a ++ c :: b ∧ c ∉ a
  | [], h => absurd h (by simp)
  | d :: l, h => by
    by_cases e : c = d
    · exact ⟨[], l, by rw [e]; rfl, by simp⟩
    · obtain ⟨a, b, h1, h2⟩ := mem_split c l (by rcases List.mem_cons.1 h with h | h; exact absurd h e; exact h)
      exact ⟨d :: a, b, by rw [h1]; rfl, by simp [e, h2]⟩
theorem cut_no (c : UInt8) (l : List UInt8) (h : c ∉ l) : Lib.cut l [c] = (l, [], false) := by
  unfold Lib.cut; rw [idx_no c l h, if_neg (by decide)]
theorem cut_yes (c : UInt8) (a b : List UInt8) (h : c ∉ a) : Lib.cut (a ++ c :: b) [c] = (a, b, true) := by
  unfold Lib.cut
  rw [idx_yes c b a h, if_pos (by omega)]
  simp
theorem cut_cases (c : UInt8) (l : List UInt8) : (c ∉ l ∧ Lib.cut l [c] = (l, [], false)) ∨ ∃ a b, l = a ++ c :: b ∧ c ∉ a ∧ Lib.cut l [c] = (a, b, true) := by
  by_cases h : c ∈ l
  · obtain ⟨a, b, h1, h2⟩ := mem_split c l h
    exact Or.inr ⟨a, b, h1, h2, by rw [h1]; exact cut_yes c a b h2⟩
  · exact Or.inl ⟨h, cut_no c l h⟩

theorem join_two (x y : List UInt8) (r : List (List UInt8)) : Lib.join (x :: y :: r) [32] = x ++ 32 :: Lib.join (y :: r) [32] := by
  rw [Lib.join_cons, Lib.join_cons]; simp [Lib.joinTail]
theorem split_ne (k : Nat) (s : List UInt8) : ∃ x r, Lib.splitK [32] 0 k s = x :: r := by
  cases k with
  | zero => exact ⟨s, [], rfl⟩
  | succ k =>
    unfold Lib.splitK
    split
    · exact ⟨s, [], rfl⟩
    · exact ⟨_, _, rfl⟩
/-- What is split is what was put together. -/
theorem join_split : ∀ (k : Nat) (s : List UInt8), Lib.join (Lib.splitK [32] 0 k s) [32] = s
  | 0, s => by rw [Lib.splitK]; exact Lib.join_one _ _
  | k + 1, s => by
    by_cases h : (32 : UInt8) ∈ s
    · obtain ⟨a, b, h1, h2⟩ := mem_split 32 s h
      have hi := idx_yes 32 b a h2
      rw [← h1] at hi
      have ih := join_split k b
      unfold Lib.splitK
      rw [hi, if_neg (by simp)]
      have e1 : s.take ((a.length : Int).toNat + 0) = a := by rw [h1]; simp
      have e2 : s.drop ((a.length : Int).toNat + [(32 : UInt8)].length) = b := by rw [h1]; simp
      rw [e1, e2]
      obtain ⟨x, r, hx⟩ := split_ne k b
      rw [hx] at ih ⊢
      rw [join_two, ih, ← h1]
    · unfold Lib.splitK
      rw [idx_no 32 s h, if_pos (by decide)]
      exact Lib.join_one _ _
/-- What is put together is split so. -/
theorem split_join : ∀ (xs : List (List UInt8)) (k : Nat), xs ≠ [] → (∀ x ∈ xs, (32 : UInt8) ∉ x) → xs.length ≤ k + 1 → Lib.splitK [32] 0 k (Lib.join xs [32]) = xs
  | [], _, h, _, _ => absurd rfl h
  | [x], k, _, hx, _ => by
    rw [Lib.join_one]
    cases k with
    | zero => rfl
    | succ k => unfold Lib.splitK; rw [idx_no 32 x (hx x (by simp)), if_pos (by decide)]
  | x :: y :: r, k, _, hx, hk => by
    obtain ⟨k, rfl⟩ : ∃ k', k = k' + 1 := ⟨k - 1, by simp at hk; omega⟩
    have ih := split_join (y :: r) k (by simp) (fun z hz => hx z (by simp at hz ⊢; exact Or.inr hz)) (by simp at hk ⊢; omega)
    rw [join_two]
    unfold Lib.splitK
    have hi := idx_yes 32 (Lib.join (y :: r) [32]) x (hx x (by simp))
    rw [hi, if_neg (by simp)]
    have e1 : (x ++ 32 :: Lib.join (y :: r) [32]).take ((x.length : Int).toNat + 0) = x := by simp
    have e2 : (x ++ 32 :: Lib.join (y :: r) [32]).drop ((x.length : Int).toNat + [(32 : UInt8)].length) = Lib.join (y :: r) [32] := by simp
    rw [e1, e2, ih]

theorem parts_data (s : ByteArray) : (partsOf s).map (·.data.toList) = Lib.splitK [32] 0 (min 7 (s.size + 1) - 1) s.data.toList := Lib.splitB_data _ _ _ _
theorem kind_word {l : List UInt8} (h : kindOfI l = 1 ∨ kindOfI l = 2) : (kw (kindOfI l)).data.toList = l := by
  unfold kindOfI at h ⊢
  split
  · rename_i e; rw [e]; rfl
  · split
    · rename_i e; rw [e]; rfl
    · rename_i e1 e2; simp [e1, e2] at h
theorem head_col (p : ByteArray) (h : (colOf p).2 = 1 ∨ (colOf p).2 = 2) : (headB (colOf p)).data.toList = p.data.toList := by
  have hk : (colOf p).2 = kindOfI (Lib.cut p.data.toList [58]).2.1 := rfl
  rw [hk] at h
  have hw := kind_word h
  have e : (headB (colOf p)).data.toList = (Lib.cut p.data.toList [58]).1 ++ 58 :: (kw (kindOfI (Lib.cut p.data.toList [58]).2.1)).data.toList := by
    simp [headB, colOf]
  rw [e, hw]
  rcases cut_cases 58 p.data.toList with ⟨_, hc⟩ | ⟨a, b, h1, _, hc⟩
  · rw [hc] at h; simp [kindOfI] at h
  · rw [hc]; exact h1.symm
/-- A first line that is read is written so. -/
theorem head_back (s : ByteArray) (h : rightColsB (colsOf s) = true) : headL (colsOf s) = s.data.toList ++ [10] := by
  unfold headL lineL
  have e : (colsOf s).map (fun c => (headB c).data.toList) = (partsOf s).map (·.data.toList) := by
    unfold colsOf
    rw [List.map_map]
    apply List.map_congr_left
    intro p hp
    exact head_col p (cols_each h (colOf p) (List.mem_map.2 ⟨p, hp, rfl⟩)).2
  rw [e, parts_data, join_split]

theorem allI_mem {p : Int → Bool} {l : List UInt8} (h : allI p l = true) {c : UInt8} (hc : c ∈ l) : p (c.toNat : Int) = true := by
  unfold allI at h; rw [List.all_eq_true] at h; exact h c hc
theorem name_bytes {l : List UInt8} (h : nameB l = true) : l ≠ [] ∧ ∀ c ∈ l, c ≠ 58 ∧ c ≠ 32 ∧ c ≠ 10 := by
  unfold nameB at h
  split at h
  · simp at h
  · rename_i d r
    refine ⟨by simp, fun c hc => ?_⟩
    simp only [Bool.and_eq_true] at h
    have := allI_mem h.2.2 hc
    refine ⟨?_, ?_, ?_⟩ <;> (intro e; subst e; revert this; decide)
theorem kw_bytes (k : Int) : ∀ c ∈ (kw k).data.toList, c ≠ 58 ∧ c ≠ 32 ∧ c ≠ 10 := by
  unfold kw
  split <;> decide
theorem head_bytes {c : Cl} (h : nameB c.1.data.toList = true) : ∀ x ∈ (headB c).data.toList, x ≠ 32 ∧ x ≠ 10 := by
  intro x hx
  have e : (headB c).data.toList = c.1.data.toList ++ 58 :: (kw c.2).data.toList := by simp [headB]
  rw [e, List.mem_append] at hx
  rcases hx with hx | hx
  · exact ((name_bytes h).2 x hx).2
  · rcases List.mem_cons.1 hx with rfl | hx
    · decide
    · exact (kw_bytes c.2 x hx).2
theorem col_head {c : Cl} (h : nameB c.1.data.toList = true) (hk : c.2 = 1 ∨ c.2 = 2) : colOf ⟨(headB c).data.toList.toArray⟩ = c := by
  have e : (headB c).data.toList = c.1.data.toList ++ 58 :: (kw c.2).data.toList := by simp [headB]
  have hc : Lib.cut (headB c).data.toList [58] = (c.1.data.toList, (kw c.2).data.toList, true) := by
    rw [e]; exact cut_yes 58 _ _ (fun hm => ((name_bytes h).2 58 hm).1 rfl)
  unfold colOf
  rw [show (ByteArray.mk (headB c).data.toList.toArray).data.toList = (headB c).data.toList from rfl, hc]
  have hkk : kindOfI (kw c.2).data.toList = c.2 := by rcases hk with hk | hk <;> rw [hk] <;> rfl
  rw [hkk]
theorem cols_name {cs : List Cl} (h : rightColsB cs = true) (c : Cl) (hc : c ∈ cs) : nameB c.1.data.toList = true := by
  simp [rightColsB] at h
  exact (colsOK_each cs [] h.2.2 c hc).1
theorem join_len (xs : List (List UInt8)) (h : ∀ x ∈ xs, x ≠ []) : xs.length ≤ (Lib.join xs [32]).length := by
  cases xs with
  | nil => simp
  | cons x r =>
    induction r generalizing x with
    | nil => rw [Lib.join_one]; have := List.length_pos_iff.2 (h x (by simp)); simp; omega
    | cons y q ih =>
      have := ih y (fun z hz => h z (by simp at hz ⊢; exact Or.inr hz))
      rw [join_two]; simp at this ⊢; omega
/-- What columns are written as is read as they are. -/
theorem head_there {cs : List Cl} (h : rightColsB cs = true) : colsOf ⟨(Lib.join (cs.map fun c => (headB c).data.toList) [32]).toArray⟩ = cs := by
  have hl := rightCols_len h
  have hs : (ByteArray.mk (Lib.join (cs.map fun c => (headB c).data.toList) [32]).toArray).size = (Lib.join (cs.map fun c => (headB c).data.toList) [32]).length := by simp [ByteArray.size]
  have hj := join_len (cs.map fun c => (headB c).data.toList) (by
    intro x hx
    rw [List.mem_map] at hx
    obtain ⟨c, hc, rfl⟩ := hx
    simp [headB])
  have hp := parts_data ⟨(Lib.join (cs.map fun c => (headB c).data.toList) [32]).toArray⟩
  rw [show (ByteArray.mk (Lib.join (cs.map fun c => (headB c).data.toList) [32]).toArray).data.toList = Lib.join (cs.map fun c => (headB c).data.toList) [32] from rfl, hs] at hp
  rw [split_join _ _ (by intro e; have := congrArg List.length e; simp at this; rw [this] at hl; simp at hl) (by
    intro x hx
    rw [List.mem_map] at hx
    obtain ⟨c, hc, rfl⟩ := hx
    exact fun hm => (head_bytes (cols_name h c hc) 32 hm).1 rfl) (by simp at hj ⊢; omega)] at hp
  unfold colsOf
  generalize partsOf ⟨(Lib.join (cs.map fun c => (headB c).data.toList) [32]).toArray⟩ = ps at hp
  have e : ps = (ps.map (·.data.toList)).map (fun l => (⟨l.toArray⟩ : ByteArray)) := by
    rw [List.map_map]
    have : ((fun l : List UInt8 => (⟨l.toArray⟩ : ByteArray)) ∘ fun p : ByteArray => p.data.toList) = id := by
      funext p; exact (str_of rfl).symm
    rw [this, List.map_id]
  rw [e, hp, List.map_map, List.map_map]
  have : cs.map id = cs := List.map_id cs
  rw [← this]
  rw [List.map_map]
  apply List.map_congr_left
  intro c hc
  exact col_head (cols_name h c hc) (cols_each h c hc).2
end Go.Proofs.YtkdbidcofamkcaaGreatDoor
