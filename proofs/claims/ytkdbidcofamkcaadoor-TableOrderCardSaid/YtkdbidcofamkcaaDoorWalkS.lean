import Derived.Test.YtkdbidcofamkcaaDoorMathA
set_option linter.unusedSimpArgs false
set_option linter.unusedVariables false
namespace Go.Proofs.YtkdbidcofamkcaaDoor
open Go.RowKit

theorem cell3 (w : World) (A B C : Array Value) (t : TypeId) (j : Nat) :
    (((w.alloc (.cells A t)).alloc (.cells B t)).alloc (.cells C t)).cell? ⟨w.heap.size, j, none⟩ = A[j]? ∧ (((w.alloc (.cells A t)).alloc (.cells B t)).alloc (.cells C t)).cell? ⟨w.heap.size + 1, j, none⟩ = B[j]? ∧ (((w.alloc (.cells A t)).alloc (.cells B t)).alloc (.cells C t)).cell? ⟨w.heap.size + 1 + 1, j, none⟩ = C[j]? := by
  have z1 : (w.alloc (.cells A t)).heap.size = w.heap.size + 1 := by simp
  have z2 : ((w.alloc (.cells A t)).alloc (.cells B t)).heap.size = w.heap.size + 1 + 1 := by simp
  refine ⟨?_, ?_, ?_⟩
  · rw [World.cell?_alloc_past _ _ _ (by show w.heap.size < _; omega), World.cell?_alloc_past _ _ _ (by show w.heap.size < _; omega), World.cell?_alloc_at _ _ _ _ rfl]
  · rw [World.cell?_alloc_past _ _ _ (by show w.heap.size + 1 < _; omega), World.cell?_alloc_at _ _ _ _ z1.symm]
  · rw [World.cell?_alloc_at _ _ _ _ z2.symm]

theorem data_inj {a b : ByteArray} (h : a.data.toList = b.data.toList) : a = b := (str_of h).trans (str_of rfl).symm

def vL (x : Vl) : Value := .agg #[.int .i64 x.1, .int .i64 x.2.1, .string x.2.2]
def lsB (x y : Vl) : Bool := lessB x.1 x.2.1 x.2.2.data.toList y.1 y.2.1 y.2.2.data.toList

set_option maxRecDepth 100000 in
set_option maxHeartbeats 12800000 in
theorem order_any (a b c : Vl) (w : World) (hE : Env w) (ha : a.2.2.size ≤ maxLen) (hb : b.2.2.size ≤ maxLen) (hc : c.2.2.size ≤ maxLen) :
    Calls Tryd.prog 3 #[.agg #[.int .i64 a.1, .int .i64 a.2.1, .string a.2.2], .agg #[.int .i64 b.1, .int .i64 b.2.1, .string b.2.2], .agg #[.int .i64 c.1, .int .i64 c.2.1, .string c.2.2]] w fun e w' => e = .returned (.bool true) ∧ Below w.heap.size w w' := by
  have bx : ∀ x y z, Below w.heap.size w (((w.alloc x).alloc y).alloc z) := fun x y z => bel_box (bel_box (below_box _ _) _) _
  have HW := Hid.mk (written_any _ (hE.below (bx (.cells #[.int .i64 a.1, .int .i64 a.2.1, .string a.2.2] 23) (.cells #[.int .i64 b.1, .int .i64 b.2.1, .string b.2.2] 23) (.cells #[.int .i64 c.1, .int .i64 c.2.1, .string c.2.2] 23))))
  have HE := Hid.mk hE
  have BX := Hid.mk bx
  clear hE bx
  go_enter Tryd.func3, Tryd.ntmps3
  go_wp2_with (first | (go_at_call 4; refine HW.out.mono ?_; rintro e w1 ⟨rfl, hb1⟩; obtain ⟨hc1, hf1⟩ := bcell hb1) | (go_at_call 5; fail))
  have p2 : w.heap.size + 1 + 1 < w1.heap.size := by have := hb1.size; simp at this; omega
  have p1 : w.heap.size + 1 < w1.heap.size := by omega
  have p0 : w.heap.size < w1.heap.size := by omega
  have xa0 : w1.cell? ⟨w.heap.size, 0, none⟩ = some (.int .i64 a.1) := (hc1 (w.heap.size) 0 (by simp <;> omega)).trans ((cell3 w _ _ _ _ 0).1)
  have xa1 : w1.cell? ⟨w.heap.size, 1, none⟩ = some (.int .i64 a.2.1) := (hc1 (w.heap.size) 1 (by simp <;> omega)).trans ((cell3 w _ _ _ _ 1).1)
  have xa2 : w1.cell? ⟨w.heap.size, 2, none⟩ = some (.string a.2.2) := (hc1 (w.heap.size) 2 (by simp <;> omega)).trans ((cell3 w _ _ _ _ 2).1)
  have xb0 : w1.cell? ⟨w.heap.size + 1, 0, none⟩ = some (.int .i64 b.1) := (hc1 (w.heap.size + 1) 0 (by simp <;> omega)).trans ((cell3 w _ _ _ _ 0).2.1)
  have xb1 : w1.cell? ⟨w.heap.size + 1, 1, none⟩ = some (.int .i64 b.2.1) := (hc1 (w.heap.size + 1) 1 (by simp <;> omega)).trans ((cell3 w _ _ _ _ 1).2.1)
  have xb2 : w1.cell? ⟨w.heap.size + 1, 2, none⟩ = some (.string b.2.2) := (hc1 (w.heap.size + 1) 2 (by simp <;> omega)).trans ((cell3 w _ _ _ _ 2).2.1)
  have xc0 : w1.cell? ⟨w.heap.size + 1 + 1, 0, none⟩ = some (.int .i64 c.1) := (hc1 (w.heap.size + 1 + 1) 0 (by simp <;> omega)).trans ((cell3 w _ _ _ _ 0).2.2)
  have xc1 : w1.cell? ⟨w.heap.size + 1 + 1, 1, none⟩ = some (.int .i64 c.2.1) := (hc1 (w.heap.size + 1 + 1) 1 (by simp <;> omega)).trans ((cell3 w _ _ _ _ 1).2.2)
  have xc2 : w1.cell? ⟨w.heap.size + 1 + 1, 2, none⟩ = some (.string c.2.2) := (hc1 (w.heap.size + 1 + 1) 2 (by simp <;> omega)).trans ((cell3 w _ _ _ _ 2).2.2)
  have B1 := Hid.mk (bel_then (BX.out _ _ _) hb1)
  clear hc1 hf1 hb1 HW BX
  refine (rightValue_vl a w1 ha).mono ?_
  rintro e w2 ⟨rfl, hb2⟩
  cases ga : rvB a
  · go_wp2
    go_ret
    exact ⟨rfl, bel_then B1.out hb2⟩
  obtain ⟨hc2, hf2⟩ := bcell hb2
  go_wp2_with (go_at_call 5; fail)
  refine (rightValue_vl b w2 hb).mono ?_
  rintro e w3 ⟨rfl, hb3⟩
  cases gb : rvB b
  · go_wp2
    go_ret
    exact ⟨rfl, bel_then (bel_then B1.out hb2) hb3⟩
  obtain ⟨hc3, hf3⟩ := bcell hb3
  have hs2 := hb2.size
  have q2 : w.heap.size + 1 + 1 < w2.heap.size := by omega
  go_wp2_with (go_at_call 5; fail)
  refine (rightValue_vl c w3 hc).mono ?_
  rintro e w4 ⟨rfl, hb4⟩
  cases gc : rvB c
  · go_wp2
    go_ret
    exact ⟨rfl, bel_then (bel_then (bel_then B1.out hb2) hb3) hb4⟩
  have b4 : Below w1.heap.size w1 w4 := bel_then (bel_then hb2 hb3) hb4
  have ya0 : w4.cell? ⟨w.heap.size, 0, none⟩ = some (.int .i64 a.1) := (b4.cell (p := ⟨w.heap.size, 0, none⟩) p0).trans xa0
  have ya1 : w4.cell? ⟨w.heap.size, 1, none⟩ = some (.int .i64 a.2.1) := (b4.cell (p := ⟨w.heap.size, 1, none⟩) p0).trans xa1
  have ya2 : w4.cell? ⟨w.heap.size, 2, none⟩ = some (.string a.2.2) := (b4.cell (p := ⟨w.heap.size, 2, none⟩) p0).trans xa2
  have yb0 : w4.cell? ⟨w.heap.size + 1, 0, none⟩ = some (.int .i64 b.1) := (b4.cell (p := ⟨w.heap.size + 1, 0, none⟩) p1).trans xb0
  have yb1 : w4.cell? ⟨w.heap.size + 1, 1, none⟩ = some (.int .i64 b.2.1) := (b4.cell (p := ⟨w.heap.size + 1, 1, none⟩) p1).trans xb1
  have yb2 : w4.cell? ⟨w.heap.size + 1, 2, none⟩ = some (.string b.2.2) := (b4.cell (p := ⟨w.heap.size + 1, 2, none⟩) p1).trans xb2
  have yc0 : w4.cell? ⟨w.heap.size + 1 + 1, 0, none⟩ = some (.int .i64 c.1) := (b4.cell (p := ⟨w.heap.size + 1 + 1, 0, none⟩) p2).trans xc0
  have yc1 : w4.cell? ⟨w.heap.size + 1 + 1, 1, none⟩ = some (.int .i64 c.2.1) := (b4.cell (p := ⟨w.heap.size + 1 + 1, 1, none⟩) p2).trans xc1
  have yc2 : w4.cell? ⟨w.heap.size + 1 + 1, 2, none⟩ = some (.string c.2.2) := (b4.cell (p := ⟨w.heap.size + 1 + 1, 2, none⟩) p2).trans xc2
  have s4 := b4.size
  have B4 := Hid.mk (bel_then B1.out b4)
  clear hc2 hf2 hc3 hf3 hb2 hb3 hb4 hs2 q2 xa0 xa1 xa2 xb0 xb1 xb2 xc0 xc1 xc2 b4
  go_wp2
  have ka0 := cell_regrown (w := w4) (a := ⟨w.heap.size, 0, none⟩) (v := .int .i64 a.1) ya0
  have ka1 := cell_regrown (w := w4) (a := ⟨w.heap.size, 1, none⟩) (v := .int .i64 a.2.1) ya1
  have ka2 := cell_regrown (w := w4) (a := ⟨w.heap.size, 2, none⟩) (v := .string a.2.2) ya2
  have kb0 := cell_regrown (w := w4) (a := ⟨w.heap.size + 1, 0, none⟩) (v := .int .i64 b.1) yb0
  have kb1 := cell_regrown (w := w4) (a := ⟨w.heap.size + 1, 1, none⟩) (v := .int .i64 b.2.1) yb1
  have kb2 := cell_regrown (w := w4) (a := ⟨w.heap.size + 1, 2, none⟩) (v := .string b.2.2) yb2
  have kc0 := cell_regrown (w := w4) (a := ⟨w.heap.size + 1 + 1, 0, none⟩) (v := .int .i64 c.1) yc0
  have kc1 := cell_regrown (w := w4) (a := ⟨w.heap.size + 1 + 1, 1, none⟩) (v := .int .i64 c.2.1) yc1
  have kc2 := cell_regrown (w := w4) (a := ⟨w.heap.size + 1 + 1, 2, none⟩) (v := .string c.2.2) yc2
  have cL : ∀ (k n : Int) (s : ByteArray) (k' n' : Int) (s' : ByteArray) (d : Nat) (os : Array Obj), _ := fun k n s k' n' s' d os => Calls.regrown_of (less_any k n s k' n' s' (Sort.grow (redrawn w4 d) os))
  refine wp_region_quiet_below (by kernel_rfl) (by kernel_rfl) ?_
  repeat (any_goals (first | go_big_quiet_step (exact cL _ _ _ _ _ _ _ _) | quiet_step (exact cL _ _ _ _ _ _ _ _)))
  refine wpQuiet_nil ?_
  intro _ hw'
  obtain ⟨⟨dq, osq⟩, hw''⟩ := hw'
  subst hw''
  go_wp2
  obtain ⟨w5, hw5⟩ : ∃ x, x = Sort.grow (redrawn w4 dq) osq := ⟨_, rfl⟩
  rw [← hw5]
  have ua0 : w5.cell? ⟨w.heap.size, 0, none⟩ = some (.int .i64 a.1) := by rw [hw5]; exact ka0 dq osq
  have ua1 : w5.cell? ⟨w.heap.size, 1, none⟩ = some (.int .i64 a.2.1) := by rw [hw5]; exact ka1 dq osq
  have ua2 : w5.cell? ⟨w.heap.size, 2, none⟩ = some (.string a.2.2) := by rw [hw5]; exact ka2 dq osq
  have ub0 : w5.cell? ⟨w.heap.size + 1, 0, none⟩ = some (.int .i64 b.1) := by rw [hw5]; exact kb0 dq osq
  have ub1 : w5.cell? ⟨w.heap.size + 1, 1, none⟩ = some (.int .i64 b.2.1) := by rw [hw5]; exact kb1 dq osq
  have ub2 : w5.cell? ⟨w.heap.size + 1, 2, none⟩ = some (.string b.2.2) := by rw [hw5]; exact kb2 dq osq
  have uc0 : w5.cell? ⟨w.heap.size + 1 + 1, 0, none⟩ = some (.int .i64 c.1) := by rw [hw5]; exact kc0 dq osq
  have uc1 : w5.cell? ⟨w.heap.size + 1 + 1, 1, none⟩ = some (.int .i64 c.2.1) := by rw [hw5]; exact kc1 dq osq
  have uc2 : w5.cell? ⟨w.heap.size + 1 + 1, 2, none⟩ = some (.string c.2.2) := by rw [hw5]; exact kc2 dq osq
  have b5 : Below w4.heap.size w4 w5 := by rw [hw5]; exact below_regrown w4 dq osq
  have B5 := Hid.mk (bel_then B4.out b5)
  clear hw5 b5 cL
  clear ka0 ya0 ka1 ya1 ka2 ya2 kb0 yb0 kb1 yb1 kb2 yb2 kc0 yc0 kc1 yc1 kc2 yc2
  have ga0 := cell_regrown (w := w5) (a := ⟨w.heap.size, 0, none⟩) (v := .int .i64 a.1) ua0
  have ga1 := cell_regrown (w := w5) (a := ⟨w.heap.size, 1, none⟩) (v := .int .i64 a.2.1) ua1
  have ga2 := cell_regrown (w := w5) (a := ⟨w.heap.size, 2, none⟩) (v := .string a.2.2) ua2
  have gb0 := cell_regrown (w := w5) (a := ⟨w.heap.size + 1, 0, none⟩) (v := .int .i64 b.1) ub0
  have gb1 := cell_regrown (w := w5) (a := ⟨w.heap.size + 1, 1, none⟩) (v := .int .i64 b.2.1) ub1
  have gb2 := cell_regrown (w := w5) (a := ⟨w.heap.size + 1, 2, none⟩) (v := .string b.2.2) ub2
  have gc0 := cell_regrown (w := w5) (a := ⟨w.heap.size + 1 + 1, 0, none⟩) (v := .int .i64 c.1) uc0
  have gc1 := cell_regrown (w := w5) (a := ⟨w.heap.size + 1 + 1, 1, none⟩) (v := .int .i64 c.2.1) uc1
  have gc2 := cell_regrown (w := w5) (a := ⟨w.heap.size + 1 + 1, 2, none⟩) (v := .string c.2.2) uc2
  clear ua0 ua1 ua2 ub0 ub1 ub2 uc0 uc1 uc2
  have cL : ∀ (k n : Int) (s : ByteArray) (k' n' : Int) (s' : ByteArray) (d : Nat) (os : Array Obj), _ := fun k n s k' n' s' d os => Calls.regrown_of (less_any k n s k' n' s' (Sort.grow (redrawn w5 d) os))
  have sa := text_len ga
  have sb := text_len gb
  have cV : ∀ (k n : Int) (s : ByteArray), s.size ≤ 16 → -1000000000 ≤ n → n ≤ 1000000000 → ∀ (d : Nat) (os : Array Obj), _ := fun k n s h1 h2 h3 d os => Calls.regrown_of (value_any k n s (Sort.grow (redrawn w5 d) os) (by omega) (by omega) (by omega) ((HE.out.below B5.out).below (below_regrown w5 d os)))
  obtain ⟨-, sa1, sa2, sa3⟩ := sa
  obtain ⟨-, sb1, sb2, sb3⟩ := sb
  cases hm : lessB a.1 a.2.1 a.2.2.data.toList b.1 b.2.1 b.2.2.data.toList
  · cases hn : lessB b.1 b.2.1 b.2.2.data.toList a.1 a.2.1 a.2.2.data.toList
    · have he := less_tri gb ga hn hm
      have hba : b = a := by
        obtain ⟨x, y, z⟩ := a
        obtain ⟨x', y', z'⟩ := b
        simp only at he
        obtain ⟨rfl, rfl, he⟩ := he
        rw [data_inj he]
      subst hba
      clear he ga gb gc
      refine wp_region_quiet_below (by kernel_rfl) (by kernel_rfl) ?_
      repeat (any_goals (first | go_big_quiet_step (first | (go_at_call 6; exact cL _ _ _ _ _ _ _ _) | (go_at_call 7; exact cV _ _ _ (by assumption) (by assumption) (by assumption) _ _)) | quiet_step (first | (go_at_call 6; exact cL _ _ _ _ _ _ _ _) | (go_at_call 7; exact cV _ _ _ (by assumption) (by assumption) (by assumption) _ _))))
      refine wpQuiet_nil ?_
      intro _ hw'
      obtain ⟨⟨dz, osz⟩, hw''⟩ := hw'
      subst hw''
      go_wp2
      go_ret
      exact ⟨rfl, bel_then B5.out (below_regrown w5 dz osz)⟩
    · have hne : ¬ (a.1 = b.1 ∧ a.2.1 = b.2.1 ∧ a.2.2.toList = b.2.2.toList) := by
        rintro ⟨e1, e2, e3⟩
        rw [ByteArray.toList_eq, ByteArray.toList_eq] at e3
        rw [e1, e2, e3, less_irr] at hn
        exact absurd hn (by decide)
      have hv : (valueL a.1 a.2.1 a.2.2.data.toList == valueL b.1 b.2.1 b.2.2.data.toList) = false := by
        apply bool_false
        intro e
        have := valueL_inj ga gb (beq_iff_eq.1 e)
        rw [ByteArray.toList_eq, ByteArray.toList_eq] at hne
        exact hne this
      have h3 : (a.1 = b.1) = False ∨ ((a.1 = b.1) = True ∧ (a.2.1 = b.2.1) = False) ∨ ((a.1 = b.1) = True ∧ (a.2.1 = b.2.1) = True ∧ (a.2.2.toList = b.2.2.toList) = False) := by
        by_cases e1 : a.1 = b.1
        · by_cases e2 : a.2.1 = b.2.1
          · exact Or.inr (Or.inr ⟨eq_true e1, eq_true e2, eq_false fun e3 => hne ⟨e1, e2, e3⟩⟩)
          · exact Or.inr (Or.inl ⟨eq_true e1, eq_false e2⟩)
        · exact Or.inl (eq_false e1)
      clear hne ga gb gc
      rcases h3 with e1 | ⟨e1, e2⟩ | ⟨e1, e2, e3⟩
      all_goals
        refine wp_region_quiet_below (by kernel_rfl) (by kernel_rfl) ?_
        repeat (any_goals (first | go_big_quiet_step (first | (go_at_call 6; exact cL _ _ _ _ _ _ _ _) | (go_at_call 7; exact cV _ _ _ (by assumption) (by assumption) (by assumption) _ _)) | quiet_step (first | (go_at_call 6; exact cL _ _ _ _ _ _ _ _) | (go_at_call 7; exact cV _ _ _ (by assumption) (by assumption) (by assumption) _ _))))
        refine wpQuiet_nil ?_
        intro _ hw'
        obtain ⟨⟨dz, osz⟩, hw''⟩ := hw'
        subst hw''
        go_wp2
        go_ret
        exact ⟨rfl, bel_then B5.out (below_regrown w5 dz osz)⟩
  · have hn := less_asym hm
    have hne : ¬ (a.1 = b.1 ∧ a.2.1 = b.2.1 ∧ a.2.2.toList = b.2.2.toList) := by
      rintro ⟨e1, e2, e3⟩
      rw [ByteArray.toList_eq, ByteArray.toList_eq] at e3
      rw [e1, e2, e3, less_irr] at hm
      exact absurd hm (by decide)
    have hv : (valueL a.1 a.2.1 a.2.2.data.toList == valueL b.1 b.2.1 b.2.2.data.toList) = false := by
      apply bool_false
      intro e
      have := valueL_inj ga gb (beq_iff_eq.1 e)
      rw [ByteArray.toList_eq, ByteArray.toList_eq] at hne
      exact hne this
    have h3 : (a.1 = b.1) = False ∨ ((a.1 = b.1) = True ∧ (a.2.1 = b.2.1) = False) ∨ ((a.1 = b.1) = True ∧ (a.2.1 = b.2.1) = True ∧ (a.2.2.toList = b.2.2.toList) = False) := by
      by_cases e1 : a.1 = b.1
      · by_cases e2 : a.2.1 = b.2.1
        · exact Or.inr (Or.inr ⟨eq_true e1, eq_true e2, eq_false fun e3 => hne ⟨e1, e2, e3⟩⟩)
        · exact Or.inr (Or.inl ⟨eq_true e1, eq_false e2⟩)
      · exact Or.inl (eq_false e1)
    cases hp : lessB b.1 b.2.1 b.2.2.data.toList c.1 c.2.1 c.2.2.data.toList
    · clear hne ga gb gc
      rcases h3 with e1 | ⟨e1, e2⟩ | ⟨e1, e2, e3⟩
      all_goals
        refine wp_region_quiet_below (by kernel_rfl) (by kernel_rfl) ?_
        repeat (any_goals (first | go_big_quiet_step (first | (go_at_call 6; exact cL _ _ _ _ _ _ _ _) | (go_at_call 7; exact cV _ _ _ (by assumption) (by assumption) (by assumption) _ _)) | quiet_step (first | (go_at_call 6; exact cL _ _ _ _ _ _ _ _) | (go_at_call 7; exact cV _ _ _ (by assumption) (by assumption) (by assumption) _ _))))
        refine wpQuiet_nil ?_
        intro _ hw'
        obtain ⟨⟨dz, osz⟩, hw''⟩ := hw'
        subst hw''
        go_wp2
        go_ret
        exact ⟨rfl, bel_then B5.out (below_regrown w5 dz osz)⟩
    · have hq := less_trans hm hp
      clear hne ga gb gc
      rcases h3 with e1 | ⟨e1, e2⟩ | ⟨e1, e2, e3⟩
      all_goals
        refine wp_region_quiet_below (by kernel_rfl) (by kernel_rfl) ?_
        repeat (any_goals (first | go_big_quiet_step (first | (go_at_call 6; exact cL _ _ _ _ _ _ _ _) | (go_at_call 7; exact cV _ _ _ (by assumption) (by assumption) (by assumption) _ _)) | quiet_step (first | (go_at_call 6; exact cL _ _ _ _ _ _ _ _) | (go_at_call 7; exact cV _ _ _ (by assumption) (by assumption) (by assumption) _ _))))
        refine wpQuiet_nil ?_
        intro _ hw'
        obtain ⟨⟨dz, osz⟩, hw''⟩ := hw'
        subst hw''
        go_wp2
        go_ret
        exact ⟨rfl, bel_then B5.out (below_regrown w5 dz osz)⟩
end Go.Proofs.YtkdbidcofamkcaaDoor
