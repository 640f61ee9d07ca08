import Derived.Test.YtjceppinfjbegaaGreatDoorJonM
set_option linter.unusedSimpArgs false
set_option linter.unusedVariables false
namespace Go.Proofs.YtjceppinfjbegaaGreatDoor
open Go.RowKit

/-- What a column of numbers comes to. -/
def sumR (q : Nat) (rs : List (List Vl)) : Int := (rs.map fun r => (vAt r q).2.1).sum
def sumG (gs : List Gr) : Int := (gs.map fun g => g.2).sum
theorem last_split {α : Type} {l : List α} {g : α} (h : l.getLast? = some g) : l = l.dropLast ++ [g] := by
  rcases List.eq_nil_or_concat l with rfl | ⟨l', x, rfl⟩
  · simp at h
  · simp at h
    subst h
    simp
theorem sumG_app (a b : List Gr) : sumG (a ++ b) = sumG a + sumG b := by simp [sumG]
theorem sumG_step (p q : Nat) (gs : List Gr) (r : List Vl) : sumG (stepG p q gs r) = sumG gs + (vAt r q).2.1 := by
  unfold stepG
  cases e : gs.getLast? with
  | none => rw [List.getLast?_eq_none_iff] at e; subst e; simp [sumG]
  | some g =>
    simp only []
    split
    · have h := last_split e
      conv => rhs; rw [h]
      rw [sumG_app, sumG_app]
      simp [sumG]
      omega
    · rw [sumG_app]; simp [sumG]
theorem sumG_fold (p q : Nat) : ∀ (l : List (List Vl)) (acc : List Gr), sumG (l.foldl (stepG p q) acc) = sumG acc + sumR q l
  | [], acc => by simp [sumR]
  | r :: l, acc => by
    rw [List.foldl_cons, sumG_fold p q l, sumG_step]
    simp [sumR]
    omega
theorem sumR_ins (q : Nat) (lt : List Vl → List Vl → Bool) (x : List Vl) : ∀ (l : List (List Vl)), sumR q (Stb.insL lt x l) = (vAt x q).2.1 + sumR q l
  | [] => by simp [Stb.insL, sumR]
  | y :: l => by
    unfold Stb.insL
    split
    · simp [sumR]
    · have := sumR_ins q lt x l
      simp only [sumR, List.map_cons, List.sum_cons] at this ⊢
      omega
theorem sumR_sort (q : Nat) (ks : List Nat) (rs : List (List Vl)) : sumR q (sortR ks rs) = sumR q rs := by
  have key : ∀ (l acc : List (List Vl)), sumR q (l.foldl (fun acc x => Stb.insL (ltR ks) x acc) acc) = sumR q acc + sumR q l := by
    intro l
    induction l with
    | nil => intro acc; simp [sumR]
    | cons x l ih =>
      intro acc
      rw [List.foldl_cons, ih, sumR_ins]
      simp only [sumR, List.map_cons, List.sum_cons]
      omega
  have h := key rs []
  unfold sortR Stb.sortL
  rw [h]
  simp [sumR]
/-- The sums of the groups are the sum of all. -/
theorem sums_same (p q : Nat) (rs : List (List Vl)) : sumG (grpL p q (sortR [p] rs)) = sumR q rs := by
  unfold grpL
  rw [sumG_fold, sumR_sort]
  simp [sumG]
theorem less_trans {a b c : Vl} (h : lessV a b = true) (h' : lessV b c = true) : lessV a c = true := by
  cases e : lessV a c with
  | true => rfl
  | false =>
    have h1 := ordV.asymm _ _ h'
    have h2 := ordV.ntrans _ _ _ e h1
    rw [h2] at h
    cases h
theorem keys_fold (p q : Nat) : ∀ (l : List (List Vl)) (acc : List Gr), (acc.Pairwise fun g g' => lessV g.1 g'.1 = true) → (∀ g ∈ acc, ∀ r ∈ l, g.1 = vAt r p ∨ lessV g.1 (vAt r p) = true) → (l.Pairwise fun r r' => vAt r p = vAt r' p ∨ lessV (vAt r p) (vAt r' p) = true) → ((l.foldl (stepG p q) acc).Pairwise fun g g' => lessV g.1 g'.1 = true)
  | [], acc, h, _, _ => h
  | r :: l, acc, h, hA, hL => by
    obtain ⟨hL1, hL2⟩ := List.pairwise_cons.1 hL
    rw [List.foldl_cons]
    refine keys_fold p q l (stepG p q acc r) ?_ ?_ hL2
    · unfold stepG
      cases e : acc.getLast? with
      | none => simp
      | some g =>
        have hs := last_split e
        have hg : g ∈ acc := List.mem_of_getLast? e
        rw [hs] at h
        obtain ⟨h1, h2, h3⟩ := List.pairwise_append.1 h
        simp only []
        split
        · refine List.pairwise_append.2 ⟨h1, by simp, fun a ha b hb => ?_⟩
          simp at hb
          rw [hb]
          exact h3 a ha g (by simp)
        · rename_i hne
          have hgk := (hA g hg r (by simp)).resolve_left hne
          rw [← hs] at h
          refine List.pairwise_append.2 ⟨h, by simp, fun a ha b hb => ?_⟩
          simp at hb
          rw [hb]
          rw [hs] at ha
          rcases List.mem_append.1 ha with ha | ha
          · exact less_trans (h3 a ha g (by simp)) hgk
          · simp at ha
            rw [ha]
            exact hgk
    · intro g hg r' hr'
      have hold : ∀ g' ∈ acc, g'.1 = vAt r' p ∨ lessV g'.1 (vAt r' p) = true := fun g' hg' => hA g' hg' r' (by simp [hr'])
      have hnew : vAt r p = vAt r' p ∨ lessV (vAt r p) (vAt r' p) = true := hL1 r' hr'
      unfold stepG at hg
      cases e : acc.getLast? with
      | none =>
        rw [e] at hg
        simp at hg
        rw [hg]
        exact hnew
      | some g0 =>
        rw [e] at hg
        simp only [] at hg
        split at hg
        · rcases List.mem_append.1 hg with hg | hg
          · exact hold g ((List.dropLast_sublist _).subset hg)
          · simp at hg
            rw [hg]
            exact hold g0 (List.mem_of_getLast? e)
        · rcases List.mem_append.1 hg with hg | hg
          · exact hold g hg
          · simp at hg
            rw [hg]
            exact hnew
/-- The keys of the groups rise. -/
theorem keys_rise (p q : Nat) (rs : List (List Vl)) (ht : ∀ r ∈ rs, ∀ r' ∈ rs, vAt r p = vAt r' p ∨ lessV (vAt r p) (vAt r' p) = true ∨ lessV (vAt r' p) (vAt r p) = true) : (grpL p q (sortR [p] rs)).Pairwise fun g g' => lessV g.1 g'.1 = true := by
  unfold grpL
  refine keys_fold p q (sortR [p] rs) [] (by simp) (by simp) ?_
  have hs : Stb.Sorted (ltR [p]) (sortR [p] rs) := (Stb.sortL_ok (ordR [p]) rs).1
  refine List.Pairwise.imp_of_mem ?_ hs
  intro a b ha hb h
  have ha' : a ∈ rs := (Stb.sortL_mem (ordR [p])).1 ha
  have hb' : b ∈ rs := (Stb.sortL_mem (ordR [p])).1 hb
  rcases ht a ha' b hb' with h1 | h1 | h1
  · exact Or.inl h1
  · exact Or.inr h1
  · exfalso
    have : ltR [p] b a = true := by unfold ltR cmpR; rw [if_pos h1]; rfl
    rw [this] at h
    cases h
theorem ba_listG {x y : ByteArray} (h : x.data.toList = y.data.toList) : x = y := ba_ext h
/-- Right values of one kind are in a row. -/
theorem val_tot {x y : Vl} (hx : rvB x = true) (hy : rvB y = true) (hk : x.1 = y.1) : x = y ∨ lessV x y = true ∨ lessV y x = true := by
  obtain ⟨k, n, s⟩ := x
  obtain ⟨k', n', s'⟩ := y
  simp only at hk
  subst hk
  have h1 : rightValueB k n s.data.toList = true := hx
  have h2 : rightValueB k n' s'.data.toList = true := hy
  unfold rightValueB at h1 h2
  unfold lessV lessB
  simp only [bne_self_eq_false, Bool.false_eq_true, if_false]
  by_cases e : k = 1
  · subst e
    simp only [if_true, Bool.and_eq_true, decide_eq_true_eq, List.isEmpty_iff] at h1 h2
    simp only [beq_self_eq_true, if_true, decide_eq_true_eq]
    rcases Int.lt_trichotomy n n' with h | h | h
    · exact Or.inr (Or.inl h)
    · left
      rw [h, ba_listG (h1.2.2.trans h2.2.2.symm)]
    · exact Or.inr (Or.inr h)
  · rw [if_neg e] at h1 h2
    rw [if_neg (by simpa using e), if_neg (by simpa using e)]
    split at h1
    · rename_i e2
      rw [if_pos e2] at h2
      simp only [Bool.and_eq_true, beq_iff_eq] at h1 h2
      cases l1 : Op.bytesLess s.data.toList s'.data.toList with
      | true => exact Or.inr (Or.inl rfl)
      | false =>
        cases l2 : Op.bytesLess s'.data.toList s.data.toList with
        | true => exact Or.inr (Or.inr rfl)
        | false =>
          left
          rw [h1.2, h2.2, ba_listG (bl_tri _ _ l1 l2)]
    · cases h1
theorem right_tot {cs : List Cl} {rs : List (List Vl)} {p : Nat} (h : rightB cs rs = true) (hp : p < cs.length) : ∀ r ∈ rs, ∀ r' ∈ rs, vAt r p = vAt r' p ∨ lessV (vAt r p) (vAt r' p) = true ∨ lessV (vAt r' p) (vAt r p) = true := by
  intro r hr r' hr'
  obtain ⟨h1, h2, h3⟩ := right_cols h
  obtain ⟨l1, l2, l3, l4⟩ := right_len h
  have e1 : p < r.length := by rw [l4 r hr]; exact hp
  have e2 : p < r'.length := by rw [l4 r' hr']; exact hp
  obtain ⟨a1, a2⟩ := rowT_at (h3 r hr) p e1 hp
  obtain ⟨b1, b2⟩ := rowT_at (h3 r' hr') p e2 hp
  rw [vAt_of e1, vAt_of e2]
  exact val_tot a2 b2 (a1.trans b1.symm)
/-- The groups of a right table: their keys rise, their sums are the sum of all. -/
theorem grp_right {t : Tb} {x y : ByteArray} (hr : rightB t.1 t.2 = true) (he : grpErr t.1 x y = 0) : ((grpOf t x y).Pairwise fun g g' => lessV g.1 g'.1 = true) ∧ sumG (grpOf t x y) = sumR (pOf t.1 y) t.2 :=
  ⟨keys_rise _ _ _ (right_tot hr (place_some (grpErr_0 he).1)), sums_same _ _ _⟩
end Go.Proofs.YtjceppinfjbegaaGreatDoor

