import Derived.Test.YtccbjhaebajamaaGreatDoorOpsG
set_option linter.unusedSimpArgs false
set_option linter.unusedVariables false
namespace Go.Proofs.YtccbjhaebajamaaGreatDoor
open Go.RowKit

set_option maxRecDepth 100000 in
set_option maxHeartbeats 800000 in
/-- wrong, of a job that holds a column against something. -/
theorem wrong_test (hb ho tk cin b o n c : Nat) (cs : List Cl) (j : Jb) (w : World) (hcode : j.code = 1 ∨ j.code = 9) (htk : 0 < tk) (hhb : hb < w.heap.size) (h0 : w.cell? ⟨hb, ho, none⟩ = some (.slice (some ⟨b, o, none⟩) n c)) (hn : cs.length = n) (hn' : n ≤ 100) (hbl : b < w.heap.size) (hc : ColsAt w b o cs) (hx : j.right.2.2.2.size ≤ maxLen) :
    Calls Tryz.prog 64 #[.agg j.cells, .slice (some ⟨hb, ho, none⟩) tk cin] w fun e w' => e = .returned (errV (testErr cs j)) ∧ Below w.heap.size w w' := by
  have hT := fun W (h1 : Below w.heap.size w W) => wrongTest_in b o n c cs j W hn hn' (by have := h1.size; omega) (hc.below h1 hbl) hx
  unfold Jb.cells at hT ⊢
  generalize testErr cs j = r at *
  have HT := Hid.mk hT
  have htk' : (0 : Int) < (tk : Int) := by omega
  clear hT hn hc
  obtain ⟨code, hcd⟩ : ∃ k, j.code = k := ⟨_, rfl⟩
  rw [hcd] at HT hcode ⊢
  clear hcd
  rcases hcode with rfl | rfl
  all_goals
    go_enter Tryz.func64, Tryz.ntmps64
    go_wp2_with (go_at_call 92; refine (HT.out _ (below_box _ _)).mono ?_; rintro e w1 ⟨rfl, hb1⟩)
    go_ret
    exact ⟨rfl, bel_then (below_box _ _) hb1⟩

set_option maxRecDepth 100000 in
set_option maxHeartbeats 800000 in
/-- columnsOf, where they stay as they are. -/
theorem columns_same (hb ho tk cin b o n c : Nat) (cs : List Cl) (j : Jb) (w : World) (hcode : j.code = 1 ∨ j.code = 9 ∨ j.code = 2 ∨ j.code = 4 ∨ j.code = 5 ∨ j.code = 6) (htk : 0 < tk) (hhb : hb < w.heap.size) (h0 : w.cell? ⟨hb, ho, none⟩ = some (.slice (some ⟨b, o, none⟩) n c)) (hn : cs.length = n) (hn' : n ≤ 100) (hbl : b < w.heap.size) (hc : ColsAt w b o cs) :
    Calls Tryz.prog 65 #[.agg j.cells, .slice (some ⟨hb, ho, none⟩) tk cin] w fun e w' => ∃ u, e = .returned u ∧ w'.ownsRow w.heap.size 38 2 u cs.length (colCells cs) ∧ Below w.heap.size w w' := by
  have hT := fun W (h1 : Below w.heap.size w W) => cloneCol_in b o n c cs W hn hn' (by have := h1.size; omega) (hc.below h1 hbl)
  rw [hn]
  unfold Jb.cells
  have HT := Hid.mk hT
  have htk' : (0 : Int) < (tk : Int) := by omega
  clear hT hn hc
  obtain ⟨code, hcd⟩ : ∃ k, j.code = k := ⟨_, rfl⟩
  rw [hcd] at hcode ⊢
  clear hcd
  rcases hcode with rfl | rfl | rfl | rfl | rfl | rfl
  all_goals
    go_enter Tryz.func65, Tryz.ntmps65
    go_wp2_with (go_at_call 99; refine (HT.out _ (below_box _ _)).mono ?_; rintro e w1 ⟨v1, rfl, ho1, hb1⟩)
    go_ret
    exact ⟨_, rfl, own_mono (by simp) ho1, bel_then (below_box _ _) hb1⟩
end Go.Proofs.YtccbjhaebajamaaGreatDoor
