import Derived.Test.YtlpomofaeeaneaaGreatDoorSetA
set_option linter.unusedSimpArgs false
set_option linter.unusedVariables false
namespace Go.Proofs.YtlpomofaeeaneaaGreatDoor
open Go.RowKit

set_option maxRecDepth 100000 in
set_option maxHeartbeats 800000 in
/-- wrong, of a job that sets a column. -/
theorem wrong_set (hb ho tk cin b o n c cb co cc : Nat) (cs : List Cl) (nm : ByteArray) (j : Jb) (w : World) (hcode : j.code = 2) (htk : 0 < tk) (hhb : hb < w.heap.size) (h0 : w.cell? ⟨hb, ho, none⟩ = some (.slice (some ⟨b, o, none⟩) n c)) (hj : j.cols = .slice (some ⟨cb, co, none⟩) 1 cc) (hcb : cb < w.heap.size) (s0 : w.cell? ⟨cb, co, none⟩ = some (.string nm)) (hop : inS threeOps j.op.data.toList = true)
    (hn : cs.length = n) (hn' : n ≤ 100) (hbl : b < w.heap.size) (hc : ColsAt w b o cs) (hx : j.left.2.2.2.size ≤ maxLen) (hx' : j.right.2.2.2.size ≤ maxLen) :
    Calls Tryz.prog 62 #[.agg j.cells, .slice (some ⟨hb, ho, none⟩) tk cin] w fun e w' => e = .returned (errV (setErr cs j nm.data.toList)) ∧ Below w.heap.size w w' := by
  have hT := fun W (h1 : Below w.heap.size w W) => wrongSet_in b o n c cb co cc cs nm j W hj (by have := h1.size; omega) ((h1.cell (p := ⟨cb, co, none⟩) hcb).trans s0) hop hn hn' (by have := h1.size; omega) (hc.below h1 hbl) hx hx'
  unfold Jb.cells at hT ⊢
  generalize setErr cs j nm.data.toList = r at *
  obtain ⟨code, hcd⟩ : ∃ k, j.code = k := ⟨_, rfl⟩
  rw [hcd] at hT hcode ⊢
  clear hcd
  subst hcode
  have HT := Hid.mk hT
  have htk' : (0 : Int) < (tk : Int) := by omega
  clear hT hn hc s0 hj
  go_enter Tryz.func62, Tryz.ntmps62
  go_wp2_with (go_at_call 91; refine (HT.out _ (below_box _ _)).mono ?_; rintro e w1 ⟨rfl, hb1⟩)
  go_ret
  exact ⟨rfl, bel_then (below_box _ _) hb1⟩
end Go.Proofs.YtlpomofaeeaneaaGreatDoor
