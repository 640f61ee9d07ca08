import Derived.Test.YtccbjhaebajamaaGreatDoorOpsN
set_option linter.unusedSimpArgs false
set_option linter.unusedVariables false
namespace Go.Proofs.YtccbjhaebajamaaGreatDoor
open Go.RowKit

set_option maxRecDepth 100000 in
set_option maxHeartbeats 1600000 in
/-- wrongGroup: one column of numbers, twice. -/
theorem group_twice (b o n c cb co cc i : Nat) (cs : List Cl) (nm : ByteArray) (j : Jb) (w : World) (hj : j.cols = .slice (some ⟨cb, co, none⟩) 2 cc) (hop : j.op = ⟨#[115, 117, 109]⟩) (hcb : cb < w.heap.size) (s0 : w.cell? ⟨cb, co, none⟩ = some (.string nm)) (s1 : w.cell? ⟨cb, co + 1, none⟩ = some (.string nm)) (hi : placeN cs nm.data.toList = some i) (hk : (cs[i]'(place_some hi)).2 = 1)
    (hn : cs.length = n) (hn' : n ≤ 100) (hb : b < w.heap.size) (hc : ColsAt w b o cs) :
    Calls Tryz.prog 96 #[.agg j.cells, .slice (some ⟨b, o, none⟩) n c] w fun e w' => e = .returned (errV 9) ∧ Below w.heap.size w w' := by
  have hil := place_some hi
  have hin : (i : Int) < (n : Int) := by omega
  have hd := (hc i hil).2
  rw [hk] at hd
  have hP := fun W (h1 : Below w.heap.size w W) => place_in b o n c cs nm W hn hn' (by have := h1.size; omega) (hc.below h1 hb)
  rw [show placeI cs nm.data.toList = (i : Int) by rw [placeI, hi]] at hP
  have hJ := job_new w j 36
  have hB0 := below_box w (.cells j.cells 36)
  obtain ⟨W, hW⟩ : ∃ W, W = w.alloc (.cells j.cells 36) := ⟨_, rfl⟩
  rw [← hW] at hJ hB0
  have e4 := cell_regrown (show W.cell? ⟨w.heap.size, 4, none⟩ = some (.slice (some ⟨cb, co, none⟩) 2 cc) from by have := hJ 4 j.cols rfl; rw [hj] at this; exact this)
  have e5 := cell_regrown ((hB0.cell (p := ⟨cb, co, none⟩) hcb).trans s0)
  have e6 := cell_regrown ((hB0.cell (p := ⟨cb, co + 1, none⟩) hcb).trans s1)
  have C1 : ∀ d os, _ := fun d os => Calls.regrown_of (hP (Sort.grow (redrawn W d) os) (bel_then hB0 (below_regrown _ _ _)))
  have HB := Hid.mk hB0
  clear hJ hB0 hn hc hP hi hk
  unfold Jb.cells at hW ⊢
  rw [hj, hop] at hW ⊢
  go_enter Tryz.func96, Tryz.ntmps96
  go_wp2
  rw [← hW]
  clear hW
  refine wp_region_quiet_below (by kernel_rfl) (by kernel_rfl) ?_
  repeat (any_goals (first | go_big_quiet_step (exact C1 _ _) | quiet_step (exact C1 _ _)))
  refine wpQuiet_nil ?_
  intro _ hw'
  obtain ⟨⟨dq, osq⟩, hw''⟩ := hw'
  subst hw''
  have hb5 := bel_then HB.out (below_regrown W dq osq)
  have d5 := (hb5.cell (p := ⟨b, o + i * 2 + 1, none⟩) hb).trans hd
  have HB5 := Hid.mk hb5
  clear e4 e5 e6 C1 hb5 HB
  generalize Sort.grow (redrawn W dq) osq = W5 at *
  go_wp2
  go_ret
  exact ⟨rfl, HB5.out⟩

set_option maxRecDepth 100000 in
set_option maxHeartbeats 800000 in
/-- wrong, of a job that groups. -/
theorem wrong_group (hb ho tk cin b o n c : Nat) (j : Jb) (r : Int) (w : World) (hcode : j.code = 8) (htk : 0 < tk) (hhb : hb < w.heap.size) (h0 : w.cell? ⟨hb, ho, none⟩ = some (.slice (some ⟨b, o, none⟩) n c))
    (hG : ∀ W, Below w.heap.size w W → Calls Tryz.prog 96 #[.agg j.cells, .slice (some ⟨b, o, none⟩) n c] W fun e w' => e = .returned (errV r) ∧ Below W.heap.size W w') :
    Calls Tryz.prog 64 #[.agg j.cells, .slice (some ⟨hb, ho, none⟩) tk cin] w fun e w' => e = .returned (errV r) ∧ Below w.heap.size w w' := by
  unfold Jb.cells at hG ⊢
  rw [hcode] at hG ⊢
  generalize errV r = ev at *
  have HT := Hid.mk hG
  have htk' : (0 : Int) < (tk : Int) := by omega
  clear hG hcode
  go_enter Tryz.func64, Tryz.ntmps64
  go_wp2_with (go_at_call 96; refine (HT.out _ (below_box _ _)).mono ?_; rintro e w1 ⟨rfl, hb1⟩)
  go_ret
  exact ⟨rfl, bel_then (below_box _ _) hb1⟩

/-- The known table. -/
def sD : ByteArray := ⟨#[105, 100, 58, 105, 110, 116, 32, 110, 97, 109, 101, 58, 116, 101, 120, 116, 10, 50, 32, 39, 98, 39, 10, 49, 32, 39, 97, 39, 10, 50, 32, 39, 99, 39, 10]⟩
def sE : List UInt8 := [105, 100, 58, 105, 110, 116, 32, 110, 97, 109, 101, 58, 116, 101, 120, 116, 10, 50, 32, 39, 98, 39, 10, 50, 32, 39, 99, 39, 10]
def csD : List Cl := [(⟨#[105, 100]⟩, 1), (⟨#[110, 97, 109, 101]⟩, 2)]
def rsD : List (List V3) := [[(1, 2, []), (2, 0, [98])], [(1, 1, []), (2, 0, [97])], [(1, 2, []), (2, 0, [99])]]
def rsE : List (List Vl) := [[(1, 2, ⟨#[]⟩), (2, 0, ⟨#[98]⟩)], [(1, 2, ⟨#[]⟩), (2, 0, ⟨#[99]⟩)]]

theorem itoa_1 : Lib.itoa 1 = [49] := by
  unfold Lib.itoa; rw [if_neg (by decide)]; exact Lib.decDigits_one (i := 1) (by decide)
theorem itoa_2 : Lib.itoa 2 = [50] := by
  unfold Lib.itoa; rw [if_neg (by decide)]; exact Lib.decDigits_one (i := 2) (by decide)
theorem pvD_1 : parseV [49] = some (1, 1, []) := by
  have h : readV [49] = (1, 1, []) := by kernel_rfl
  rw [pv_end h]
  simp only [valueL, if_true, itoa_1]
  decide
theorem pvD_2 : parseV [50] = some (1, 2, []) := by
  have h : readV [50] = (1, 2, []) := by kernel_rfl
  rw [pv_end h]
  simp only [valueL, if_true, itoa_2]
  decide
theorem pvD_a : parseV [39, 97, 39] = some (2, 0, [97]) := by kernel_rfl
theorem pvD_b : parseV [39, 98, 39] = some (2, 0, [98]) := by kernel_rfl
theorem pvD_c : parseV [39, 99, 39] = some (2, 0, [99]) := by kernel_rfl
theorem rowD_a : rowRead csD [49, 32, 39, 97, 39] false = some [(1, 1, []), (2, 0, [97])] := by
  have h1 : cutV false [49, 32, 39, 97, 39] = ([49], [39, 97, 39], true) := by decide
  have h2 : cutV false [39, 97, 39] = ([39, 97, 39], [], false) := by decide
  simp [csD, rowRead, h1, h2, pvD_1, pvD_a]
theorem rowD_b : rowRead csD [50, 32, 39, 98, 39] false = some [(1, 2, []), (2, 0, [98])] := by
  have h1 : cutV false [50, 32, 39, 98, 39] = ([50], [39, 98, 39], true) := by decide
  have h2 : cutV false [39, 98, 39] = ([39, 98, 39], [], false) := by decide
  simp [csD, rowRead, h1, h2, pvD_2, pvD_b]
theorem rowD_c : rowRead csD [50, 32, 39, 99, 39] false = some [(1, 2, []), (2, 0, [99])] := by
  have h1 : cutV false [50, 32, 39, 99, 39] = ([50], [39, 99, 39], true) := by decide
  have h2 : cutV false [39, 99, 39] = ([39, 99, 39], [], false) := by decide
  simp [csD, rowRead, h1, h2, pvD_2, pvD_c]
theorem cutD_0 : Lib.cut sD.data.toList [10] = ([105, 100, 58, 105, 110, 116, 32, 110, 97, 109, 101, 58, 116, 101, 120, 116], [50, 32, 39, 98, 39, 10, 49, 32, 39, 97, 39, 10, 50, 32, 39, 99, 39, 10], true) := by decide +kernel
theorem cutD_1 : Lib.cut [50, 32, 39, 98, 39, 10, 49, 32, 39, 97, 39, 10, 50, 32, 39, 99, 39, 10] [10] = ([50, 32, 39, 98, 39], [49, 32, 39, 97, 39, 10, 50, 32, 39, 99, 39, 10], true) := by decide +kernel
theorem cutD_2 : Lib.cut [49, 32, 39, 97, 39, 10, 50, 32, 39, 99, 39, 10] [10] = ([49, 32, 39, 97, 39], [50, 32, 39, 99, 39, 10], true) := by decide +kernel
theorem cutD_3 : Lib.cut [50, 32, 39, 99, 39, 10] [10] = ([50, 32, 39, 99, 39], [], true) := by decide +kernel
theorem colsD : colsOf ⟨[105, 100, 58, 105, 110, 116, 32, 110, 97, 109, 101, 58, 116, 101, 120, 116].toArray⟩ = csD := by kernel_rfl
theorem rightD : rightColsB csD = true := by kernel_rfl
theorem parseD : parseT sD.data.toList = .ok (csD, rsD) := by
  rw [parseT_of cutD_0, colsD, if_pos rightD]
  rw [show sD.data.toList.length + 1 = 36 from rfl]
  rw [lines_more (f := 35) (by simp) (by rw [cutD_1]; exact rowD_b) (by simp), cutD_1]
  rw [lines_more (f := 34) (by simp) (by rw [cutD_2]; exact rowD_a) (by simp), cutD_2]
  rw [lines_more (f := 33) (by simp) (by rw [cutD_3]; exact rowD_c) (by simp), cutD_3]
  rw [lines_end]
  rfl
theorem printD : printL csD rsE = sE := by
  simp only [printL, rsE, List.flatMap_cons, List.flatMap_nil, rowL, List.map_cons, List.map_nil, valueL, if_true, itoa_2]
  decide +kernel
theorem rightE : rightB csD rsE = true := by kernel_rfl
theorem rightT : rightB csD (rsD.map (·.map vl)) = true := by kernel_rfl
end Go.Proofs.YtccbjhaebajamaaGreatDoor
