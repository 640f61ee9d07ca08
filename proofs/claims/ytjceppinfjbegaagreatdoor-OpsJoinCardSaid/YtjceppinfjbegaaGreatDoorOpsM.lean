import Derived.Test.YtjceppinfjbegaaGreatDoorOpsL
set_option linter.unusedSimpArgs false
set_option linter.unusedVariables false
namespace Go.Proofs.YtjceppinfjbegaaGreatDoor
open Go.RowKit

theorem rowOK_length : ∀ (vs : List Vl) (cs : List Cl), rowOK vs cs = true → vs.length = cs.length := fun vs cs h => by
  by_cases hl : vs.length = cs.length
  · exact hl
  · rw [rowOK_lens vs cs hl] at h; cases h
theorem right_len {cs : List Cl} {rs : List (List Vl)} (h : rightB cs rs = true) : 1 ≤ cs.length ∧ cs.length ≤ 6 ∧ rs.length ≤ 60 ∧ ∀ r ∈ rs, r.length = cs.length := by
  obtain ⟨h1, h2, h3⟩ := right_cols h
  have h4 := rightCols_len h1
  exact ⟨h4.1, h4.2, h2, fun r hr => rowOK_length r cs (h3 r hr)⟩
theorem cols_size {w : World} {v : Value} {cs : List Cl} (h : ColsIs w v cs) : ∀ x ∈ cs, x.1.size ≤ maxLen := by
  obtain ⟨_, _, _, _, hs, _⟩ := h; exact hs
theorem cols_at {w : World} {v : Value} {cs : List Cl} (h : ColsIs w v cs) (h1 : 1 ≤ cs.length) : ∃ b o c, v = .slice (some ⟨b, o, none⟩) cs.length c ∧ b < w.heap.size ∧ ColsAt w b o cs := by
  obtain ⟨a, c, rfl, -, -, h⟩ := h
  rcases h with h | ⟨b, o, rfl, hl, hat⟩
  · rw [h] at h1; simp at h1
  · exact ⟨b, o, c, rfl, hl, hat⟩
theorem testErr_ok {cs : List Cl} {j : Jb} (h : testErr cs j = 0) : okArg cs j.left ∧ (kindA cs j.right ≠ 0 → okArg cs j.right) := by
  unfold testErr at h
  split at h
  · cases h
  · constructor
    · cases g : placeN cs j.left.1.data.toList with
      | none => rw [g] at h; cases h
      | some i => exact Or.inr ⟨i, g⟩
    · intro hk
      unfold kindA at hk
      split at hk
      · rename_i he; exact Or.inl he
      · cases g : placeN cs j.right.1.data.toList with
        | none => rw [g] at hk; exact absurd rfl hk
        | some i => exact Or.inr ⟨i, g⟩
theorem kind_right {cs : List Cl} {j : Jb} (hr : ∀ c ∈ cs, c.2 ≠ 0) (h : testErr cs j = 0) : kindA cs j.right ≠ 0 := by
  unfold testErr at h
  split at h
  · cases h
  · cases g : placeN cs j.left.1.data.toList with
    | none => rw [g] at h; cases h
    | some i =>
      rw [g] at h
      have hil := place_some g
      simp only [List.getElem?_eq_getElem hil, Option.getD_some] at h
      split at h
      · rename_i e; rw [e]; exact hr _ (List.getElem_mem hil)
      · cases h

/-- What is told of one table, handed to a job that holds a column against something (0: nothing is wrong). -/
def testNo (j : Jb) (m : Nat) (t : Tb) : Int := if rightB t.1 t.2 = false then 1 else if (m : Int) ≠ (sizesI j.code).2 then 1 else testErr t.1 j
theorem kinds_ne {cs : List Cl} (h : rightColsB cs = true) : ∀ c ∈ cs, c.2 ≠ 0 := by
  intro c hc
  have h2 := (colsOK_each cs [] (by simp [rightColsB] at h; exact h.2.2) c hc).2
  simp [kindB] at h2
  omega

/-- The first of the heads. -/
theorem head_of {W : World} {B g cap : Nat} {us : List Value} {cs : List Cl} (ho : W.ownsRow B 33 1 (.slice (some ⟨g, 0, none⟩) 1 cap) 1 us) (hh : HeadsIs W us [cs]) (h1 : 1 ≤ cs.length) :
    ∃ b o c, W.cell? ⟨g, 0, none⟩ = some (.slice (some ⟨b, o, none⟩) cs.length c) ∧ g < W.heap.size ∧ b < W.heap.size ∧ ColsAt W b o cs := by
  obtain ⟨u, hu, hc⟩ := hh.2 0 (by simp)
  obtain ⟨b, o, c, rfl, hbl, hat⟩ := cols_at hc h1
  exact ⟨b, o, c, list_cell ho 0 _ (by decide) hu, (ho.lt g rfl).2, hbl, hat⟩

theorem do_test_bad (tb to_ tcap : Nat) (t : Tb) (j : Jb) (oa : Option Addr) (m oc : Nat) (w : World) (hcode : j.code = 1 ∨ j.code = 9) (hout : j.outs = .slice oa m oc) (ht : TabsAt w tb to_ [t]) (htb : tb < w.heap.size) (hx : j.right.2.2.2.size ≤ maxLen) (hno : testNo j m t ≠ 0) :
    Calls Tryz.prog 15 #[.agg j.cells, .slice (some ⟨tb, to_, none⟩) 1 tcap] w fun e w' => e = .returned (.tuple #[.slice none 0 0, errV (testNo j m t)]) ∧ Below w.heap.size w w' := by
  cases hr : rightB t.1 t.2
  · have : testNo j m t = 1 := by unfold testNo; rw [if_pos hr]
    rw [this]
    exact do_arg tb to_ tcap [t] j w ht htb (by simp) ⟨t, by simp, hr⟩
  · obtain ⟨hr1, hr2, hr3, hr4⟩ := right_len hr
    have hgood : ∀ x ∈ [t], rightB x.1 x.2 = true := by intro x hx'; simp at hx'; rw [hx']; exact hr
    obtain ⟨mk, hmk⟩ : ∃ mk : Nat, sizesI j.code = (((1 : Nat) : Int), (mk : Int)) := by
      rcases hcode with h | h
      · exact ⟨1, by rw [h]; rfl⟩
      · exact ⟨2, by rw [h]; rfl⟩
    by_cases hm : m = mk
    · have hn : testNo j m t = testErr t.1 j := by unfold testNo; rw [if_neg (by simp [hr]), if_neg (by rw [hmk, hm]; simp)]
      rw [hn] at hno ⊢
      refine do_bad tb to_ tcap [t] j w ht htb (by simp) (by simp) hgood _ hno ?_
      intro W B g cap us hW ho hh
      obtain ⟨b, o, c, hc0, hgl, hbl, hat⟩ := head_of ho hh hr1
      exact cols_bad _ oa cap oc j 1 mk _ W (by rw [hout, hm]) hmk (by decide) hno (fun W' hW' => wrong_test g 0 1 cap b o t.1.length c t.1 j W' hcode (by decide) (Nat.lt_of_lt_of_le hgl hW'.size) ((hW'.cell (p := ⟨g, 0, none⟩) hgl).trans hc0) rfl (by omega) (Nat.lt_of_lt_of_le hbl hW'.size) (hat.below hW' hbl) hx)
    · have hn : testNo j m t = 1 := by unfold testNo; rw [if_neg (by simp [hr]), if_pos (by rw [hmk]; show ¬ ((m : Int) = (mk : Int)); omega)]
      rw [hn]
      refine do_bad tb to_ tcap [t] j w ht htb (by simp) (by simp) hgood _ (by decide) ?_
      intro W B g cap us hW ho hh
      exact cols_arg _ oa 1 cap m oc j 1 mk W hout hmk (Or.inr (Or.inr hm))

theorem do_test_cols {t : Tb} {j : Jb} {w : World} (oa : Option Addr) (mk oc : Nat) (hcode : j.code = 1 ∨ j.code = 9) (hout : j.outs = .slice oa mk oc) (hmk : sizesI j.code = (((1 : Nat) : Int), (mk : Int))) (h2 : mk ≤ 2) (hx : j.right.2.2.2.size ≤ maxLen) (hr : rightB t.1 t.2 = true) (he : testErr t.1 j = 0) :
    ∀ W B g cap us, Below w.heap.size w W → W.ownsRow B 33 1 (.slice (some ⟨g, 0, none⟩) [t].length cap) [t].length us → HeadsIs W us ([t].map (·.1)) → Calls Tryz.prog 11 #[.agg j.cells, .slice (some ⟨g, 0, none⟩) [t].length cap] W fun e w' => ∃ v us, e = .returned (.tuple #[v, .nilIface]) ∧ w'.ownsRow W.heap.size 33 1 v mk us ∧ HeldCols w' W.heap.size us t.1 ∧ Below W.heap.size W w' := by
  obtain ⟨hr1, hr2, hr3, hr4⟩ := right_len hr
  intro W B g cap us hW ho hh
  obtain ⟨b, o, c, hc0, hgl, hbl, hat⟩ := head_of ho hh hr1
  refine cols_ok _ oa cap oc j 1 mk t.1 W hout hmk (by decide) h2 (fun W' hW' => ?_) (fun W' hW' => columns_same g 0 1 cap b o t.1.length c t.1 j W' (by rcases hcode with h | h; exact Or.inl h; exact Or.inr (Or.inl h)) (by decide) (Nat.lt_of_lt_of_le hgl hW'.size) ((hW'.cell (p := ⟨g, 0, none⟩) hgl).trans hc0) rfl (by omega) (Nat.lt_of_lt_of_le hbl hW'.size) (hat.below hW' hbl))
  have := wrong_test g 0 1 cap b o t.1.length c t.1 j W' hcode (by decide) (Nat.lt_of_lt_of_le hgl hW'.size) ((hW'.cell (p := ⟨g, 0, none⟩) hgl).trans hc0) rfl (by omega) (Nat.lt_of_lt_of_le hbl hW'.size) (hat.below hW' hbl) hx
  rw [he] at this
  exact this
theorem do_test_rows {tb to_ tcap : Nat} {t : Tb} {j : Jb} {w : World} (hcode : j.code = 1 ∨ j.code = 9) (ht : TabsAt w tb to_ [t]) (htb : tb < w.heap.size) (hr : rightB t.1 t.2 = true) (he : testErr t.1 j = 0) :
    ∀ W, Below w.heap.size w W → Calls Tryz.prog 49 #[.agg j.cells, .slice (some ⟨tb, to_, none⟩) [t].length tcap] W fun e w' => ∃ v1 v2 us1 us2, e = .returned (.tuple #[v1, v2, .nilIface]) ∧ w'.ownsRow W.heap.size 62 1 v1 (t.2.filter (testB t.1 j)).length us1 ∧ HeldRows w' W.heap.size us1 (t.2.filter (testB t.1 j)) ∧ w'.ownsRow W.heap.size 62 1 v2 (t.2.filter (fun r => !testB t.1 j r)).length us2 ∧ HeldRows w' W.heap.size us2 (t.2.filter (fun r => !testB t.1 j r)) ∧ Below W.heap.size W w' := by
  obtain ⟨hr1, hr2, hr3, hr4⟩ := right_len hr
  obtain ⟨ok1, ok2⟩ := testErr_ok he
  have ok2' := ok2 (kind_right (kinds_ne (right_cols hr).1) he)
  intro W hW
  obtain ⟨vc, vr, c0, c1, hc, hrs⟩ := ht 0 (by simp)
  exact rowsOf_test tb to_ 1 tcap vc vr t.1 t.2 j W hcode (by decide) (Nat.lt_of_lt_of_le htb hW.size) ((hW.cell (p := ⟨tb, to_, none⟩) htb).trans (by simpa using c0)) ((hW.cell (p := ⟨tb, to_ + 1, none⟩) htb).trans (by simpa using c1)) (hc.below hW) (hrs.below hW) hr1 (by omega) hr4 (by omega) ok1 ok2'

theorem testNo_0 {j : Jb} {m mk : Nat} {t : Tb} (hmk : sizesI j.code = (((1 : Nat) : Int), (mk : Int))) (h : testNo j m t = 0) : rightB t.1 t.2 = true ∧ m = mk ∧ testErr t.1 j = 0 := by
  unfold testNo at h
  split at h
  · cases h
  · split at h
    · cases h
    · rename_i h1 h2
      refine ⟨by simpa using h1, ?_, h⟩
      rw [hmk] at h2
      have h3 : ¬ ¬ ((m : Int) = (mk : Int)) := h2
      omega

theorem do_filter (tb to_ tcap : Nat) (t : Tb) (j : Jb) (oa : Option Addr) (m oc : Nat) (w : World) (hcode : j.code = 1) (hout : j.outs = .slice oa m oc) (ht : TabsAt w tb to_ [t]) (htb : tb < w.heap.size) (hx : j.right.2.2.2.size ≤ maxLen) (hno : testNo j m t = 0) :
    Calls Tryz.prog 15 #[.agg j.cells, .slice (some ⟨tb, to_, none⟩) 1 tcap] w fun e w' => ∃ g c, e = .returned (.tuple #[.slice (some ⟨g, 0, none⟩) 1 c, .nilIface]) ∧ w.heap.size ≤ g ∧ g < w'.heap.size ∧ TabsNew w' w.heap.size g [(t.1, t.2.filter (testB t.1 j))] ∧ Below w.heap.size w w' := by
  have hmk : sizesI j.code = (((1 : Nat) : Int), ((1 : Nat) : Int)) := by rw [hcode]; rfl
  obtain ⟨hr, rfl, he⟩ := testNo_0 hmk hno
  obtain ⟨hr1, hr2, hr3, hr4⟩ := right_len hr
  obtain ⟨vc, vr, c0, c1, hc, hrs⟩ := ht 0 (by simp)
  exact do_ok1 tb to_ tcap [t] j w ht htb (by simp) (by simp) (by intro x hx'; simp at hx'; rw [hx']; exact hr) t.1 _ _ (Nat.le_trans (List.length_filter_le _ _) hr3) (cols_size hc) (do_test_cols oa 1 oc (Or.inl hcode) hout hmk (by decide) hx hr he) (do_test_rows (Or.inl hcode) ht htb hr he)
theorem do_split (tb to_ tcap : Nat) (t : Tb) (j : Jb) (oa : Option Addr) (m oc : Nat) (w : World) (hcode : j.code = 9) (hout : j.outs = .slice oa m oc) (ht : TabsAt w tb to_ [t]) (htb : tb < w.heap.size) (hx : j.right.2.2.2.size ≤ maxLen) (hno : testNo j m t = 0) :
    Calls Tryz.prog 15 #[.agg j.cells, .slice (some ⟨tb, to_, none⟩) 1 tcap] w fun e w' => ∃ g c, e = .returned (.tuple #[.slice (some ⟨g, 0, none⟩) 2 c, .nilIface]) ∧ w.heap.size ≤ g ∧ g < w'.heap.size ∧ TabsNew w' w.heap.size g [(t.1, t.2.filter (testB t.1 j)), (t.1, t.2.filter (fun r => !testB t.1 j r))] ∧ Below w.heap.size w w' := by
  have hmk : sizesI j.code = (((1 : Nat) : Int), ((2 : Nat) : Int)) := by rw [hcode]; rfl
  obtain ⟨hr, rfl, he⟩ := testNo_0 hmk hno
  obtain ⟨hr1, hr2, hr3, hr4⟩ := right_len hr
  obtain ⟨vc, vr, c0, c1, hc, hrs⟩ := ht 0 (by simp)
  exact do_ok2 tb to_ tcap [t] j w ht htb (by simp) (by simp) (by intro x hx'; simp at hx'; rw [hx']; exact hr) t.1 _ _ (Nat.le_trans (List.length_filter_le _ _) hr3) (cols_size hc) (do_test_cols oa 2 oc (Or.inr hcode) hout hmk (by decide) hx hr he) (do_test_rows (Or.inr hcode) ht htb hr he)
end Go.Proofs.YtjceppinfjbegaaGreatDoor

