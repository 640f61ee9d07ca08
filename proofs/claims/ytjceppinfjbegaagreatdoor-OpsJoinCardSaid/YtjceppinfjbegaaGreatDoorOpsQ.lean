import Derived.Test.YtjceppinfjbegaaGreatDoorOpsM
set_option linter.unusedSimpArgs false
set_option linter.unusedVariables false
namespace Go.Proofs.YtjceppinfjbegaaGreatDoor
open Go.RowKit

theorem rowsNew_slice {w : World} {B : Nat} {v : Value} {rs : List (List Vl)} (h : RowsNew w B v rs) : ∃ a c, v = .slice a rs.length c := by
  obtain ⟨us, h1, -⟩ := h
  exact own_slice h1
theorem tab_one {w : World} {B g : Nat} {t : Tb} (h : TabsNew w B g [t]) : ∃ ca cc ra rc, w.cell? ⟨g, 0, none⟩ = some (.slice ca t.1.length cc) ∧ w.cell? ⟨g, 1, none⟩ = some (.slice ra t.2.length rc) ∧ ColsNew w B (.slice ca t.1.length cc) t.1 ∧ RowsNew w B (.slice ra t.2.length rc) t.2 := by
  obtain ⟨vc, vr, d0, d1, hc, hr⟩ := h 0 (by simp)
  obtain ⟨ca, cc, rfl⟩ := own_slice hc.1
  obtain ⟨ra, rc, rfl⟩ := rowsNew_slice hr
  exact ⟨ca, cc, ra, rc, d0, d1, hc, hr⟩
/-- A job, its outputs told. -/
def Jb.withOuts (j : Jb) (v : Value) : Jb := { j with outs := v }

set_option maxRecDepth 100000 in
set_option maxHeartbeats 1600000 in
/-- one, where a job fails. -/
theorem one_bad (tb to_ ln tcap : Nat) (j : Jb) (n : Int) (w : World) (hcode : 1 ≤ j.code ∧ j.code ≤ 8) (hn : n ≠ 0)
    (hD : ∀ W H, Below w.heap.size w W → w.heap.size < H → Calls Tryz.prog 15 #[.agg (j.withOuts (.slice (some ⟨H, 0, none⟩) 1 2)).cells, .slice (some ⟨tb, to_, none⟩) ln tcap] W fun e w' => e = .returned (.tuple #[.slice none 0 0, errV n]) ∧ Below W.heap.size W w') :
    Calls Tryz.prog 19 #[.agg j.cells, .slice (some ⟨tb, to_, none⟩) ln tcap] w fun e w' => e = .returned (.tuple #[.agg #[.slice none 0 0, .slice none 0 0], .bool false]) ∧ Below w.heap.size w w' := by
  rw [errV_ne hn] at hD
  unfold Jb.withOuts Jb.cells at hD
  unfold Jb.cells
  simp only at hD
  have HD := Hid.mk hD
  have hq : j.code.tdiv 9 = 0 := by rw [Int.tdiv_eq_ediv_of_nonneg (by omega)]; omega
  clear hD hn hcode
  go_enter Tryz.func19, Tryz.ntmps19
  go_wp2_with (go_at_call 15; refine (HD.out _ _ (bel_box (bel_box (below_box _ _) _) _) (by omega)).mono ?_; rintro e w1 ⟨rfl, hb1⟩; obtain ⟨hc1, hf1⟩ := bcell hb1; have hz1 : w.heap.size + 1 < w1.heap.size := by (have := hb1.size; simp at this; omega))
  have hb01 := bel_then (bel_box (bel_box (below_box _ _) _) _) hb1
  have c0 : w1.cell? ⟨w.heap.size + 1, 0, none⟩ = some (.slice none 0 0) := by
    have h := hc1 (w.heap.size + 1) 0 (by simp)
    rw [h, World.cell?_alloc_past _ _ _ (by simp), World.cell?_alloc_at _ _ _ _ (by simp)]
    rfl
  have c1 : w1.cell? ⟨w.heap.size + 1, 1, none⟩ = some (.slice none 0 0) := by
    have h := hc1 (w.heap.size + 1) 1 (by simp)
    rw [h, World.cell?_alloc_past _ _ _ (by simp), World.cell?_alloc_at _ _ _ _ (by simp)]
    rfl
  clear hc1 hf1
  refine bodyPost_ret (v := .tuple #[.agg #[.slice none 0 0, .slice none 0 0], .bool false]) (by simp [results, Tryz.results19, go_sem, c0, c1]) rfl ⟨rfl, ?_⟩
  exact (hb01.setCell (by show w.heap.size ≤ w.heap.size + 1; omega) _).setCell (by show w.heap.size ≤ w.heap.size + 1; omega) _

set_option maxRecDepth 100000 in
set_option maxHeartbeats 1600000 in
/-- one, where a job makes a table. -/
theorem one_ok (tb to_ ln tcap : Nat) (j : Jb) (t : Tb) (w : World) (hcode : 1 ≤ j.code ∧ j.code ≤ 8)
    (hD : ∀ W H, Below w.heap.size w W → w.heap.size < H → Calls Tryz.prog 15 #[.agg (j.withOuts (.slice (some ⟨H, 0, none⟩) 1 2)).cells, .slice (some ⟨tb, to_, none⟩) ln tcap] W fun e w' => ∃ g c, e = .returned (.tuple #[.slice (some ⟨g, 0, none⟩) 1 c, .nilIface]) ∧ W.heap.size ≤ g ∧ g < w'.heap.size ∧ TabsNew w' W.heap.size g [t] ∧ Below W.heap.size W w') :
    Calls Tryz.prog 19 #[.agg j.cells, .slice (some ⟨tb, to_, none⟩) ln tcap] w fun e w' => ∃ vc vr, e = .returned (.tuple #[.agg #[vc, vr], .bool true]) ∧ ColsNew w' w.heap.size vc t.1 ∧ RowsNew w' w.heap.size vr t.2 ∧ Below w.heap.size w w' := by
  unfold Jb.withOuts Jb.cells at hD
  unfold Jb.cells
  simp only at hD
  have HD := Hid.mk hD
  have hq : j.code.tdiv 9 = 0 := by rw [Int.tdiv_eq_ediv_of_nonneg (by omega)]; omega
  clear hD hcode
  go_enter Tryz.func19, Tryz.ntmps19
  go_wp2_with fail
  refine (HD.out _ _ (bel_box (bel_box (below_box _ _) _) _) (by omega)).mono ?_
  rintro e w1 ⟨g, c, rfl, -, hg1, ht1, hb1⟩
  obtain ⟨hc1, hf1⟩ := bcell hb1
  have hz1 : w.heap.size + 1 < w1.heap.size := by have := hb1.size; simp at this; omega
  obtain ⟨ca, cc, ra, rc, d0, d1, hcn, hrn⟩ := tab_one ht1
  have HT := Hid.mk (And.intro ht1 (And.intro hcn hrn))
  clear ht1 hcn hrn
  go_wp2
  have hb01 := bel_then (bel_box (bel_box (below_box _ _) _) _) hb1
  have c0 : w1.cell? ⟨w.heap.size + 1, 0, none⟩ = some (.slice none 0 0) := by
    have h := hc1 (w.heap.size + 1) 0 (by simp)
    rw [h, World.cell?_alloc_past _ _ _ (by simp), World.cell?_alloc_at _ _ _ _ (by simp)]
    rfl
  have c1 : w1.cell? ⟨w.heap.size + 1, 1, none⟩ = some (.slice none 0 0) := by
    have h := hc1 (w.heap.size + 1) 1 (by simp)
    rw [h, World.cell?_alloc_past _ _ _ (by simp), World.cell?_alloc_at _ _ _ _ (by simp)]
    rfl
  clear hc1 hf1
  refine bodyPost_ret (v := .tuple #[.agg #[.slice ca t.1.length cc, .slice ra t.2.length rc], .bool true]) (by simp [results, Tryz.results19, go_sem, c0, c1]) rfl ⟨_, _, rfl, ?_, ?_, ?_⟩
  · exact (((HT.out.2.1.set (by simp)).set (by simp)).mono (by simp; omega))
  · exact (((HT.out.2.2.set (by simp)).set (by simp)).mono (by simp; omega))
  · exact (hb01.setCell (by show w.heap.size ≤ w.heap.size + 1; omega) _).setCell (by show w.heap.size ≤ w.heap.size + 1; omega) _
end Go.Proofs.YtjceppinfjbegaaGreatDoor

namespace Go.Proofs.YtjceppinfjbegaaGreatDoor
open Go.RowKit

set_option maxRecDepth 100000 in
set_option maxHeartbeats 1600000 in
/-- wrongGroup: one column of numbers, twice. -/
theorem group_twice (b o n c cb co cc i : Nat) (cs : List Cl) (nm : ByteArray) (j : Jb) (w : World) (hj : j.cols = .slice (some ⟨cb, co, none⟩) 2 cc) (hop : j.op = ⟨#[115, 117, 109]⟩) (hcb : cb < w.heap.size) (s0 : w.cell? ⟨cb, co, none⟩ = some (.string nm)) (s1 : w.cell? ⟨cb, co + 1, none⟩ = some (.string nm)) (hi : placeN cs nm.data.toList = some i) (hk : (cs[i]'(place_some hi)).2 = 1)
    (hn : cs.length = n) (hn' : n ≤ 100) (hb : b < w.heap.size) (hc : ColsAt w b o cs) :
    Calls Tryz.prog 67 #[.agg j.cells, .slice (some ⟨b, o, none⟩) n c] w fun e w' => e = .returned (errV 9) ∧ Below w.heap.size w w' := by
  have hil := place_some hi
  have hin : (i : Int) < (n : Int) := by omega
  have hd := (hc i hil).2
  rw [hk] at hd
  have hP := fun W (h1 : Below w.heap.size w W) => place_in b o n c cs nm W hn hn' (by have := h1.size; omega) (hc.below h1 hb)
  rw [show placeI cs nm.data.toList = (i : Int) by rw [placeI, hi]] at hP
  have hJ := job_new w j 28
  have hB0 := below_box w (.cells j.cells 28)
  obtain ⟨W, hW⟩ : ∃ W, W = w.alloc (.cells j.cells 28) := ⟨_, rfl⟩
  rw [← hW] at hJ hB0
  have e4 := cell_regrown (show W.cell? ⟨w.heap.size, 4, none⟩ = some (.slice (some ⟨cb, co, none⟩) 2 cc) from by have := hJ 4 j.cols rfl; rw [hj] at this; exact this)
  have e5 := cell_regrown ((hB0.cell (p := ⟨cb, co, none⟩) hcb).trans s0)
  have e6 := cell_regrown ((hB0.cell (p := ⟨cb, co + 1, none⟩) hcb).trans s1)
  have C1 : ∀ d os, _ := fun d os => Calls.regrown_of (hP (Sort.grow (redrawn W d) os) (bel_then hB0 (below_regrown _ _ _)))
  have HB := Hid.mk hB0
  clear hJ hB0 hn hc hP hi hk
  unfold Jb.cells at hW ⊢
  rw [hj, hop] at hW ⊢
  go_enter Tryz.func67, Tryz.ntmps67
  go_wp2
  rw [← hW]
  clear hW
  refine wp_region_quiet_below (by kernel_rfl) (by kernel_rfl) ?_
  repeat (any_goals (first | go_big_quiet_step (exact C1 _ _) | quiet_step (exact C1 _ _)))
  refine wpQuiet_nil ?_
  intro _ hw'
  obtain ⟨⟨dq, osq⟩, hw''⟩ := hw'
  subst hw''
  have hb5 := bel_then HB.out (below_regrown W dq osq)
  have d5 := (hb5.cell (p := ⟨b, o + i * 2 + 1, none⟩) hb).trans hd
  have HB5 := Hid.mk hb5
  clear e4 e5 e6 C1 hb5 HB
  generalize Sort.grow (redrawn W dq) osq = W5 at *
  go_wp2
  go_ret
  exact ⟨rfl, HB5.out⟩

set_option maxRecDepth 100000 in
set_option maxHeartbeats 800000 in
/-- wrong, of a job that groups. -/
theorem wrong_group (hb ho tk cin b o n c : Nat) (j : Jb) (r : Int) (w : World) (hcode : j.code = 8) (htk : 0 < tk) (hhb : hb < w.heap.size) (h0 : w.cell? ⟨hb, ho, none⟩ = some (.slice (some ⟨b, o, none⟩) n c))
    (hG : ∀ W, Below w.heap.size w W → Calls Tryz.prog 67 #[.agg j.cells, .slice (some ⟨b, o, none⟩) n c] W fun e w' => e = .returned (errV r) ∧ Below W.heap.size W w') :
    Calls Tryz.prog 35 #[.agg j.cells, .slice (some ⟨hb, ho, none⟩) tk cin] w fun e w' => e = .returned (errV r) ∧ Below w.heap.size w w' := by
  unfold Jb.cells at hG ⊢
  rw [hcode] at hG ⊢
  generalize errV r = ev at *
  have HT := Hid.mk hG
  have htk' : (0 : Int) < (tk : Int) := by omega
  clear hG hcode
  go_enter Tryz.func35, Tryz.ntmps35
  go_wp2_with (go_at_call 67; refine (HT.out _ (below_box _ _)).mono ?_; rintro e w1 ⟨rfl, hb1⟩)
  go_ret
  exact ⟨rfl, bel_then (below_box _ _) hb1⟩

/-- The known table. -/
def sD : ByteArray := ⟨#[105, 100, 58, 105, 110, 116, 32, 110, 97, 109, 101, 58, 116, 101, 120, 116, 10, 50, 32, 39, 98, 39, 10, 49, 32, 39, 97, 39, 10, 50, 32, 39, 99, 39, 10]⟩
def sE : List UInt8 := [105, 100, 58, 105, 110, 116, 32, 110, 97, 109, 101, 58, 116, 101, 120, 116, 10, 50, 32, 39, 98, 39, 10, 50, 32, 39, 99, 39, 10]
def csD : List Cl := [(⟨#[105, 100]⟩, 1), (⟨#[110, 97, 109, 101]⟩, 2)]
def rsD : List (List V3) := [[(1, 2, []), (2, 0, [98])], [(1, 1, []), (2, 0, [97])], [(1, 2, []), (2, 0, [99])]]
def rsE : List (List Vl) := [[(1, 2, ⟨#[]⟩), (2, 0, ⟨#[98]⟩)], [(1, 2, ⟨#[]⟩), (2, 0, ⟨#[99]⟩)]]

theorem itoa_1 : Lib.itoa 1 = [49] := by
  unfold Lib.itoa; rw [if_neg (by decide)]; exact Lib.decDigits_one (i := 1) (by decide)
theorem itoa_2 : Lib.itoa 2 = [50] := by
  unfold Lib.itoa; rw [if_neg (by decide)]; exact Lib.decDigits_one (i := 2) (by decide)
theorem pvD_1 : parseV [49] = some (1, 1, []) := by
  have h : readV [49] = (1, 1, []) := by kernel_rfl
  rw [pv_end h]
  simp only [valueL, if_true, itoa_1]
  decide
theorem pvD_2 : parseV [50] = some (1, 2, []) := by
  have h : readV [50] = (1, 2, []) := by kernel_rfl
  rw [pv_end h]
  simp only [valueL, if_true, itoa_2]
  decide
theorem pvD_a : parseV [39, 97, 39] = some (2, 0, [97]) := by kernel_rfl
theorem pvD_b : parseV [39, 98, 39] = some (2, 0, [98]) := by kernel_rfl
theorem pvD_c : parseV [39, 99, 39] = some (2, 0, [99]) := by kernel_rfl
theorem rowD_a : rowRead csD [49, 32, 39, 97, 39] false = some [(1, 1, []), (2, 0, [97])] := by
  have h1 : cutV false [49, 32, 39, 97, 39] = ([49], [39, 97, 39], true) := by decide
  have h2 : cutV false [39, 97, 39] = ([39, 97, 39], [], false) := by decide
  simp [csD, rowRead, h1, h2, pvD_1, pvD_a]
theorem rowD_b : rowRead csD [50, 32, 39, 98, 39] false = some [(1, 2, []), (2, 0, [98])] := by
  have h1 : cutV false [50, 32, 39, 98, 39] = ([50], [39, 98, 39], true) := by decide
  have h2 : cutV false [39, 98, 39] = ([39, 98, 39], [], false) := by decide
  simp [csD, rowRead, h1, h2, pvD_2, pvD_b]
theorem rowD_c : rowRead csD [50, 32, 39, 99, 39] false = some [(1, 2, []), (2, 0, [99])] := by
  have h1 : cutV false [50, 32, 39, 99, 39] = ([50], [39, 99, 39], true) := by decide
  have h2 : cutV false [39, 99, 39] = ([39, 99, 39], [], false) := by decide
  simp [csD, rowRead, h1, h2, pvD_2, pvD_c]
theorem cutD_0 : Lib.cut sD.data.toList [10] = ([105, 100, 58, 105, 110, 116, 32, 110, 97, 109, 101, 58, 116, 101, 120, 116], [50, 32, 39, 98, 39, 10, 49, 32, 39, 97, 39, 10, 50, 32, 39, 99, 39, 10], true) := by decide +kernel
theorem cutD_1 : Lib.cut [50, 32, 39, 98, 39, 10, 49, 32, 39, 97, 39, 10, 50, 32, 39, 99, 39, 10] [10] = ([50, 32, 39, 98, 39], [49, 32, 39, 97, 39, 10, 50, 32, 39, 99, 39, 10], true) := by decide +kernel
theorem cutD_2 : Lib.cut [49, 32, 39, 97, 39, 10, 50, 32, 39, 99, 39, 10] [10] = ([49, 32, 39, 97, 39], [50, 32, 39, 99, 39, 10], true) := by decide +kernel
theorem cutD_3 : Lib.cut [50, 32, 39, 99, 39, 10] [10] = ([50, 32, 39, 99, 39], [], true) := by decide +kernel
theorem colsD : colsOf ⟨[105, 100, 58, 105, 110, 116, 32, 110, 97, 109, 101, 58, 116, 101, 120, 116].toArray⟩ = csD := by kernel_rfl
theorem rightD : rightColsB csD = true := by kernel_rfl
theorem parseD : parseT sD.data.toList = .ok (csD, rsD) := by
  rw [parseT_of cutD_0, colsD, if_pos rightD]
  rw [show sD.data.toList.length + 1 = 36 from rfl]
  rw [lines_more (f := 35) (by simp) (by rw [cutD_1]; exact rowD_b) (by simp), cutD_1]
  rw [lines_more (f := 34) (by simp) (by rw [cutD_2]; exact rowD_a) (by simp), cutD_2]
  rw [lines_more (f := 33) (by simp) (by rw [cutD_3]; exact rowD_c) (by simp), cutD_3]
  rw [lines_end]
  rfl
theorem printD : printL csD rsE = sE := by
  simp only [printL, rsE, List.flatMap_cons, List.flatMap_nil, rowL, List.map_cons, List.map_nil, valueL, if_true, itoa_2]
  decide +kernel
theorem rightE : rightB csD rsE = true := by kernel_rfl
theorem rightT : rightB csD (rsD.map (·.map vl)) = true := by kernel_rfl
end Go.Proofs.YtjceppinfjbegaaGreatDoor

namespace Go.Proofs.YtjceppinfjbegaaGreatDoor
open Go.RowKit

def zA : Ag := (⟨#[]⟩, 0, 0, ⟨#[]⟩)
def jG (a b : Nat) : Jb := ⟨0, 8, .slice (some ⟨a, 0, none⟩) 1 1, .slice none 0 0, .slice (some ⟨b, 0, none⟩) 2 2, ⟨#[115, 117, 109]⟩, zA, zA, 0⟩
def jF (a : Nat) : Jb := ⟨0, 1, .slice (some ⟨a, 0, none⟩) 1 1, .slice none 0 0, .slice none 0 0, ⟨#[62]⟩, (⟨#[105, 100]⟩, 0, 0, ⟨#[]⟩), (⟨#[]⟩, 1, 1, ⟨#[]⟩), 0⟩
def tD : Tb := (csD, rsD.map (·.map vl))

theorem doG (a b tb : Nat) (w : World) (htb : tb < w.heap.size) (hb : b < w.heap.size) (ht : TabsAt w tb 0 [tD]) (s0 : w.cell? ⟨b, 0, none⟩ = some (.string ⟨#[105, 100]⟩)) (s1 : w.cell? ⟨b, 0 + 1, none⟩ = some (.string ⟨#[105, 100]⟩)) :
    Calls Tryz.prog 15 #[.agg (jG a b).cells, .slice (some ⟨tb, 0, none⟩) 1 1] w fun e w' => e = .returned (.tuple #[.slice none 0 0, errV 9]) ∧ Below w.heap.size w w' := by
  refine do_bad tb 0 1 [tD] (jG a b) w ht htb (by simp) (by simp) (by intro x hx; simp at hx; rw [hx]; exact rightT) 9 (by decide) ?_
  intro W B g cap us hW ho hh
  obtain ⟨cb, co, cc, hc0, hgl, hbl, hat⟩ := head_of ho hh (show 1 ≤ csD.length by decide)
  refine cols_bad _ (some ⟨a, 0, none⟩) cap 1 (jG a b) 1 1 9 W rfl rfl (by decide) (by decide) (fun W' hW' => ?_)
  refine wrong_group g 0 1 cap cb co 2 cc (jG a b) 9 W' rfl (by decide) (Nat.lt_of_lt_of_le hgl hW'.size) ((hW'.cell (p := ⟨g, 0, none⟩) hgl).trans hc0) (fun W2 hW2 => ?_)
  have h02 : Below w.heap.size w W2 := bel_then (bel_then hW hW') hW2
  have hW02 := bel_then hW' hW2
  exact group_twice cb co 2 cc b 0 2 0 csD ⟨#[105, 100]⟩ (jG a b) W2 rfl rfl (Nat.lt_of_lt_of_le hb h02.size) ((h02.cell (p := ⟨b, 0, none⟩) hb).trans s0) ((h02.cell (p := ⟨b, 0 + 1, none⟩) hb).trans s1) rfl rfl rfl (by decide) (Nat.lt_of_lt_of_le hbl hW02.size) (hat.below hW02 hbl)

theorem testF (a : Nat) : testNo (jF a) 1 tD = 0 := by
  unfold testNo
  rw [if_neg (by rw [show rightB tD.1 tD.2 = true from rightT]; simp), if_neg (by show ¬ ((1 : Int) ≠ 1); simp)]
  rfl
theorem filtF (a : Nat) : tD.2.filter (testB tD.1 (jF a)) = rsE := by
  show tD.2.filter (testB tD.1 (jF 0)) = rsE
  kernel_rfl
theorem doF (a tb : Nat) (w : World) (htb : tb < w.heap.size) (ht : TabsAt w tb 0 [tD]) :
    Calls Tryz.prog 15 #[.agg (jF a).cells, .slice (some ⟨tb, 0, none⟩) 1 1] w fun e w' => ∃ g c, e = .returned (.tuple #[.slice (some ⟨g, 0, none⟩) 1 c, .nilIface]) ∧ w.heap.size ≤ g ∧ g < w'.heap.size ∧ TabsNew w' w.heap.size g [(csD, rsE)] ∧ Below w.heap.size w w' := by
  have := do_filter tb 0 1 tD (jF a) (some ⟨a, 0, none⟩) 1 1 w rfl rfl ht htb (by show (0 : Nat) ≤ maxLen; unfold maxLen; omega) (testF a)
  rw [filtF a] at this
  exact this
theorem tabs_new (w : World) (vc vr : Value) (t : Tb) (ty : TypeId) (H : Nat) (hH : w.heap.size = H) (hc : ColsIs w vc t.1) (hr : RowsIs w vr t.2) : TabsAt (w.alloc (.cells #[vc, vr] ty)) H 0 [t] := by
  subst hH
  intro j hj
  have : j = 0 := by simp at hj; omega
  subst this
  exact ⟨vc, vr, by rw [World.cell?_alloc_at _ _ _ _ rfl]; rfl, by rw [World.cell?_alloc_at _ _ _ _ rfl]; rfl, hc.below (below_box _ _), hr.below (below_box _ _)⟩

set_option maxRecDepth 100000 in
set_option maxHeartbeats 1600000 in
theorem done_any (w : World) (hE : Env w) : Calls Tryz.prog 18 #[] w fun e w' => e = .returned (.bool true) ∧ Below w.heap.size w w' := by
  have hP := parse_any sD w (by decide) hE
  rw [parseD] at hP
  have HP := Hid.mk hP
  have HE := Hid.mk hE
  clear hP hE
  go_enter Tryz.func18, Tryz.ntmps18
  go_wp2_with (first | (go_at_call 57; refine HP.out.mono ?_; rintro e w1 ⟨hb1, vc, vr, rfl, hc, hr⟩; obtain ⟨ca, cc, rfl⟩ := (show ∃ a c, vc = Value.slice a 2 c from (by obtain ⟨a, c, h, -⟩ := hc; exact ⟨a, c, h⟩)); obtain ⟨ra, rc, rfl⟩ := (show ∃ a c, vr = Value.slice a 3 c from (by obtain ⟨a, c, h, -⟩ := hr; exact ⟨a, c, h⟩))))
  have hcT : ColsIs w1 (.slice ca 2 cc) tD.1 := hc
  have hrT : RowsIs w1 (.slice ra 3 rc) tD.2 := hr
  have hG := doG (w1.heap.size + 1) (w1.heap.size + 1 + 1) (w1.heap.size + 1 + 1 + 1) ((((w1.alloc (.cells #[.slice ca 2 cc, .slice ra 3 rc] 36)).alloc (.cells #[.string ⟨#[120]⟩] 9)).alloc (.cells #[.string ⟨#[105, 100]⟩, .string ⟨#[105, 100]⟩] 9)).alloc (.cells #[.slice ca 2 cc, .slice ra 3 rc] 36)) (by simp) (by simp) (tabs_new _ _ _ tD _ _ (by simp) (((hcT.below (below_box _ _)).below (below_box _ _)).below (below_box _ _)) (((hrT.below (below_box _ _)).below (below_box _ _)).below (below_box _ _))) (by rw [World.cell?_alloc_past _ _ _ (by simp), World.cell?_alloc_at _ _ _ _ (by simp)]; rfl) (by rw [World.cell?_alloc_past _ _ _ (by simp), World.cell?_alloc_at _ _ _ _ (by simp)]; rfl)
  rw [errV_ne (by decide)] at hG
  unfold jG zA Jb.cells at hG
  refine hG.mono ?_
  clear hG
  rintro e w2 ⟨rfl, hb2⟩
  have hb02 := bel_then (bel_box (bel_box (bel_box (bel_box hb1 _) _) _) _) hb2
  have hb12 := bel_then (bel_box (bel_box (bel_box (below_box w1 _) _) _) _) hb2
  have hz2 : w1.heap.size < w2.heap.size := by have := hb2.size; simp at this; omega
  have t0 : w2.cell? ⟨w1.heap.size, 0, none⟩ = some (.slice ca 2 cc) := ((bel_then (bel_box (bel_box (below_box (w1.alloc (.cells #[.slice ca 2 cc, .slice ra 3 rc] 36)) _) _) _) hb2).cell (p := ⟨w1.heap.size, 0, none⟩) (by simp)).trans (by rw [World.cell?_alloc_at _ _ _ _ rfl]; rfl)
  have t1 : w2.cell? ⟨w1.heap.size, 1, none⟩ = some (.slice ra 3 rc) := ((bel_then (bel_box (bel_box (below_box (w1.alloc (.cells #[.slice ca 2 cc, .slice ra 3 rc] 36)) _) _) _) hb2).cell (p := ⟨w1.heap.size, 1, none⟩) (by simp)).trans (by rw [World.cell?_alloc_at _ _ _ _ rfl]; rfl)
  have HB := Hid.mk (And.intro hb02 hb12)
  have HC := Hid.mk (And.intro hcT hrT)
  clear hb2 hb02 hb12 hcT hrT hc hr hb1 HP
  go_wp2_with fail
  have hF := doF w2.heap.size (w2.heap.size + 1) ((w2.alloc (.cells #[.string ⟨#[120]⟩] 9)).alloc (.cells #[.slice ca 2 cc, .slice ra 3 rc] 36)) (by simp) (tabs_new _ _ _ tD _ _ (by simp) ((HC.out.1.below HB.out.2).below (below_box _ _)) ((HC.out.2.below HB.out.2).below (below_box _ _)))
  unfold jF Jb.cells at hF
  refine hF.mono ?_
  clear hF
  rintro e w3 ⟨g, c, rfl, -, hg3, ht3, hb3⟩
  have hb03 := bel_then (bel_box (bel_box HB.out.1 _) _) hb3
  obtain ⟨xa, xc, ya, yc, d0, d1, hcn, hrn⟩ := tab_one ht3
  have hPR := print_ok _ _ csD rsE w3 hcn.is hrn.is (HE.out.below hb03) rightE
  rw [printD] at hPR
  have HPR := Hid.mk hPR
  have HB3 := Hid.mk hb03
  clear hPR hb3 hb03 ht3 hcn hrn HB HC t0 t1
  go_wp2_with fail
  refine HPR.out.mono ?_
  rintro e w4 ⟨rfl, hb4⟩
  have hb04 := bel_then HB3.out hb4
  clear HPR hb4
  go_wp2
  go_ret
  exact ⟨ret_bool (by decide), hb04⟩
end Go.Proofs.YtjceppinfjbegaaGreatDoor

namespace Go.Proofs.YtjceppinfjbegaaGreatDoor
open Go.RowKit

def longC (c : Cl) : Bool := decide (40 < c.1.size)
def longV (v : Vl) : Bool := decide (40 < v.2.2.size)
def longR (r : List Vl) : Bool := decide (8 < r.length) || r.any longV
def smallB (cs : List Cl) (rs : List (List Vl)) : Bool := !(decide (8 < cs.length) || (decide (65 < rs.length) || cs.any longC)) && !(rs.any longR)

set_option maxHeartbeats 400000 in
theorem small1_any (c : Cl) (w : World) (hs : c.1.size ≤ maxLen) : Calls Tryz.prog 52 #[.agg #[.string c.1, .int .i64 c.2]] w fun e w' => e = .returned (.bool (longC c)) ∧ Below w.heap.size w w' := by
  unfold maxLen at hs
  go_enter Tryz.func52, Tryz.ntmps52
  go_wp2
  all_goals go_ret
  all_goals refine ⟨ret_bool ?_, below_box _ _⟩
  all_goals (simp [longC]; omega)

set_option maxHeartbeats 400000 in
theorem small21_any (v : Vl) (w : World) (hs : v.2.2.size ≤ maxLen) : Calls Tryz.prog 56 #[.agg #[.int .i64 v.1, .int .i64 v.2.1, .string v.2.2]] w fun e w' => e = .returned (.bool (longV v)) ∧ Below w.heap.size w w' := by
  unfold maxLen at hs
  go_enter Tryz.func56, Tryz.ntmps56
  go_wp2
  all_goals go_ret
  all_goals refine ⟨ret_bool ?_, below_box _ _⟩
  all_goals (simp [longV]; omega)

theorem any_step {α : Type} {p : α → Bool} {l : List α} {k : Nat} (h : k < l.length) (ht : (l.take k).any p = false) (hp : p l[k] = false) : (l.take (k + 1)).any p = false := by
  rw [List.take_succ_eq_append_getElem h, List.any_append, ht]; simp [hp]
theorem any_hit {α : Type} {p : α → Bool} {l : List α} {k : Nat} (h : k < l.length) (hp : p l[k] = true) : l.any p = true := by
  rw [List.any_eq_true]; exact ⟨_, List.getElem_mem h, hp⟩

def foundI (r : Int) (b : Bool) : Prop := -1 ≤ r ∧ r ≤ 1000 ∧ (decide (0 ≤ r)) = b

set_option maxHeartbeats 800000 in
theorem idxC_any (b o c n : Nat) (cs : List Cl) (w : World) (hn : cs.length = n) (h8 : n ≤ 100) (hb : b < w.heap.size) (hc : ColsAt w b o cs) (hs : ∀ x ∈ cs, x.1.size ≤ maxLen) :
    Calls Tryz.prog 20 #[.slice (some ⟨b, o, none⟩) n c, .func (.func 52) #[] #[]] w fun e w' => ∃ r : Int, e = .returned (.int .i64 r) ∧ foundI r (cs.any longC) ∧ Below w.heap.size w w' := by
  have HN := Hid.mk hn
  clear hn
  go_enter Tryz.func20, Tryz.ntmps20
  go_wp2
  go_loopw [8] (fun i wr => ∃ k : Nat, k ≤ n ∧ i = .int .i64 k ∧ (cs.take k).any longC = false ∧ Below w.heap.size w wr) (fun i _ => n - (intOf i).toNat)
  case atStart => exact ⟨0, Nat.zero_le _, rfl, rfl, Below.refl _ _⟩
  case round =>
    obtain ⟨k, hk, rfl, hal, hnx⟩ := hrel
    have HA := Hid.mk hal
    clear hal
    by_cases hlt : k < n
    · have hk2 : k < cs.length := by have := HN.out; omega
      obtain ⟨c1, c2⟩ := hc k hk2
      have d1 := (hnx.cell (p := ⟨b, o + k * 2, none⟩) hb).trans c1
      have d2 := (hnx.cell (p := ⟨b, o + k * 2 + 1, none⟩) hb).trans c2
      clear c1 c2
      have hq := fun ww => small1_any cs[k] ww (hs _ (List.getElem_mem hk2))
      have HQ := Hid.mk hq
      clear hq
      cases hp : longC cs[k]
      all_goals have HP := Hid.mk hp
      all_goals rw [hp] at HQ
      · go_wp2_with (go_at_call 52; refine (HQ.out _).mono ?_; rintro e w2 ⟨rfl, hb2⟩)
        go_roundw
        case rel => exact ⟨k + 1, by omega, by go_num, any_step hk2 HA.out HP.out, hnx.trans (hb2.mono hnx.size)⟩
        case measure => simp [intOf]; omega
      · go_wp2_with (go_at_call 52; refine (HQ.out _).mono ?_; rintro e w2 ⟨rfl, hb2⟩)
        go_ret
        exact ⟨k, rfl, ⟨by omega, by omega, by rw [any_hit hk2 HP.out]; simp⟩, hnx.trans (hb2.mono hnx.size)⟩
    · go_wp2
      go_ret
      exact ⟨-1, rfl, ⟨by omega, by omega, by have := HA.out; rw [List.take_of_length_le (by have := HN.out; omega)] at this; rw [this]; rfl⟩, hnx⟩

set_option maxHeartbeats 400000 in
theorem idxC_nil (a : Option Addr) (c : Nat) (f : Value) (w : World) :
    Calls Tryz.prog 20 #[.slice a 0 c, f] w fun e w' => ∃ r : Int, e = .returned (.int .i64 r) ∧ foundI r false ∧ Below w.heap.size w w' := by
  go_enter Tryz.func20, Tryz.ntmps20
  go_wp2
  go_loopw [8] (fun i wr => i = .int .i64 0 ∧ wr = w) (fun i _ => 0)
  case atStart => exact ⟨rfl, rfl⟩
  case round =>
    obtain ⟨rfl, rfl⟩ := hrel
    go_wp2
    go_ret
    exact ⟨-1, rfl, ⟨by omega, by omega, rfl⟩, Below.refl _ _⟩
theorem idxC_is (v : Value) (cs : List Cl) (w : World) (h : ColsIs w v cs) (h8 : cs.length ≤ 8) :
    Calls Tryz.prog 20 #[v, .func (.func 52) #[] #[]] w fun e w' => ∃ r : Int, e = .returned (.int .i64 r) ∧ foundI r (cs.any longC) ∧ Below w.heap.size w w' := by
  obtain ⟨a, c, rfl, -, hs, rfl | ⟨b, o, rfl, hl, hat⟩⟩ := h
  · exact idxC_nil _ _ _ _
  · exact idxC_any b o c cs.length cs w rfl (by omega) hl hat hs

set_option maxHeartbeats 400000 in
theorem hasC_any (v : Value) (cs : List Cl) (w : World) (h : ColsIs w v cs) (h8 : cs.length ≤ 8) :
    Calls Tryz.prog 51 #[v, .func (.func 52) #[] #[]] w fun e w' => e = .returned (.bool (cs.any longC)) ∧ Below w.heap.size w w' := by
  have HQ := Hid.mk (idxC_is v cs w h h8)
  obtain ⟨a, c, rfl, -, -, -⟩ := h
  go_enter Tryz.func51, Tryz.ntmps51
  go_wp2_with (go_at_call 20; refine HQ.out.mono ?_; rintro e w2 ⟨r, rfl, hf, hb2⟩; have HF := Hid.mk hf; clear hf)
  all_goals go_ret
  all_goals exact ⟨ret_bool (by rw [← HF.out.2.2]), hb2⟩

set_option maxHeartbeats 800000 in
theorem idxV_any (b o c n : Nat) (cs : List Vl) (w : World) (hn : cs.length = n) (h8 : n ≤ 100) (hb : b < w.heap.size) (hc : ValsAt w b o cs) (hs : ∀ x ∈ cs, x.2.2.size ≤ maxLen) :
    Calls Tryz.prog 93 #[.slice (some ⟨b, o, none⟩) n c, .func (.func 56) #[] #[]] w fun e w' => ∃ r : Int, e = .returned (.int .i64 r) ∧ foundI r (cs.any longV) ∧ Below w.heap.size w w' := by
  have HN := Hid.mk hn
  clear hn
  go_enter Tryz.func93, Tryz.ntmps93
  go_wp2
  go_loopw [8] (fun i wr => ∃ k : Nat, k ≤ n ∧ i = .int .i64 k ∧ (cs.take k).any longV = false ∧ Below w.heap.size w wr) (fun i _ => n - (intOf i).toNat)
  case atStart => exact ⟨0, Nat.zero_le _, rfl, rfl, Below.refl _ _⟩
  case round =>
    obtain ⟨k, hk, rfl, hal, hnx⟩ := hrel
    have HA := Hid.mk hal
    clear hal
    by_cases hlt : k < n
    · have hk2 : k < cs.length := by have := HN.out; omega
      obtain ⟨c1, c2, c3⟩ := hc k hk2
      have d1 := (hnx.cell (p := ⟨b, o + k * 3, none⟩) hb).trans c1
      have d2 := (hnx.cell (p := ⟨b, o + k * 3 + 1, none⟩) hb).trans c2
      have d3 := (hnx.cell (p := ⟨b, o + k * 3 + 2, none⟩) hb).trans c3
      clear c1 c2 c3
      have hq := fun ww => small21_any cs[k] ww (hs _ (List.getElem_mem hk2))
      have HQ := Hid.mk hq
      clear hq
      cases hp : longV cs[k]
      all_goals have HP := Hid.mk hp
      all_goals rw [hp] at HQ
      · go_wp2_with (go_at_call 56; refine (HQ.out _).mono ?_; rintro e w2 ⟨rfl, hb2⟩)
        go_roundw
        case rel => exact ⟨k + 1, by omega, by go_num, any_step hk2 HA.out HP.out, hnx.trans (hb2.mono hnx.size)⟩
        case measure => simp [intOf]; omega
      · go_wp2_with (go_at_call 56; refine (HQ.out _).mono ?_; rintro e w2 ⟨rfl, hb2⟩)
        go_ret
        exact ⟨k, rfl, ⟨by omega, by omega, by rw [any_hit hk2 HP.out]; simp⟩, hnx.trans (hb2.mono hnx.size)⟩
    · go_wp2
      go_ret
      exact ⟨-1, rfl, ⟨by omega, by omega, by have := HA.out; rw [List.take_of_length_le (by have := HN.out; omega)] at this; rw [this]; rfl⟩, hnx⟩
set_option maxHeartbeats 400000 in
theorem idxV_nil (a : Option Addr) (c : Nat) (f : Value) (w : World) :
    Calls Tryz.prog 93 #[.slice a 0 c, f] w fun e w' => ∃ r : Int, e = .returned (.int .i64 r) ∧ foundI r false ∧ Below w.heap.size w w' := by
  go_enter Tryz.func93, Tryz.ntmps93
  go_wp2
  go_loopw [8] (fun i wr => i = .int .i64 0 ∧ wr = w) (fun i _ => 0)
  case atStart => exact ⟨rfl, rfl⟩
  case round =>
    obtain ⟨rfl, rfl⟩ := hrel
    go_wp2
    go_ret
    exact ⟨-1, rfl, ⟨by omega, by omega, rfl⟩, Below.refl _ _⟩
theorem idxV_is (v : Value) (cs : List Vl) (w : World) (h : RowIs w v cs) (h8 : cs.length ≤ 8) :
    Calls Tryz.prog 93 #[v, .func (.func 56) #[] #[]] w fun e w' => ∃ r : Int, e = .returned (.int .i64 r) ∧ foundI r (cs.any longV) ∧ Below w.heap.size w w' := by
  obtain ⟨a, c, rfl, hs, rfl | ⟨b, o, rfl, hl, hat⟩⟩ := h
  · exact idxV_nil _ _ _ _
  · exact idxV_any b o c cs.length cs w rfl (by omega) hl hat hs

set_option maxHeartbeats 400000 in
theorem hasV_any (v : Value) (cs : List Vl) (w : World) (h : RowIs w v cs) (h8 : cs.length ≤ 8) :
    Calls Tryz.prog 55 #[v, .func (.func 56) #[] #[]] w fun e w' => e = .returned (.bool (cs.any longV)) ∧ Below w.heap.size w w' := by
  have HQ := Hid.mk (idxV_is v cs w h h8)
  obtain ⟨a, c, rfl, -, -⟩ := h
  go_enter Tryz.func55, Tryz.ntmps55
  go_wp2_with (go_at_call 93; refine HQ.out.mono ?_; rintro e w2 ⟨r, rfl, hf, hb2⟩; have HF := Hid.mk hf; clear hf)
  all_goals go_ret
  all_goals exact ⟨ret_bool (by rw [← HF.out.2.2]), hb2⟩

set_option maxHeartbeats 400000 in
theorem small2_any (v : Value) (vs : List Vl) (w : World) (h : RowIs w v vs) :
    Calls Tryz.prog 54 #[v] w fun e w' => e = .returned (.bool (longR vs)) ∧ Below w.heap.size w w' := by
  by_cases h8 : vs.length ≤ 8
  · have HQ := Hid.mk (hasV_any v vs w h h8)
    have HB : Hid (longR vs = vs.any longV) := by show _ = _; unfold longR; rw [decide_eq_false (by omega)]; rfl
    obtain ⟨a, c, rfl, -, -⟩ := h
    have n8 : ¬ ((8 : Int) < (vs.length : Int)) := by omega
    go_enter Tryz.func54, Tryz.ntmps54
    go_wp2_with (go_at_call 55; refine HQ.out.mono ?_; rintro e w2 ⟨rfl, hb2⟩)
    all_goals go_ret
    all_goals exact ⟨ret_bool HB.out.symm, hb2⟩
  · have HB : Hid (longR vs = true) := by show _ = _; unfold longR; rw [decide_eq_true (by omega)]; rfl
    obtain ⟨a, c, rfl, -, -⟩ := h
    have n8 : (8 : Int) < (vs.length : Int) := by omega
    go_enter Tryz.func54, Tryz.ntmps54
    go_wp2
    all_goals go_ret
    all_goals exact ⟨ret_bool HB.out.symm, Below.refl _ _⟩
end Go.Proofs.YtjceppinfjbegaaGreatDoor

namespace Go.Proofs.YtjceppinfjbegaaGreatDoor
open Go.RowKit

set_option maxHeartbeats 800000 in
theorem idxR_any (b o c n : Nat) (rs : List (List Vl)) (w : World) (hn : rs.length = n) (h8 : n ≤ 100) (hb : b < w.heap.size) (hc : RowsAt w b o rs) :
    Calls Tryz.prog 92 #[.slice (some ⟨b, o, none⟩) n c, .func (.func 54) #[] #[]] w fun e w' => ∃ r : Int, e = .returned (.int .i64 r) ∧ foundI r (rs.any longR) ∧ Below w.heap.size w w' := by
  have HN := Hid.mk hn
  clear hn
  go_enter Tryz.func92, Tryz.ntmps92
  go_wp2
  go_loopw [8] (fun i wr => ∃ k : Nat, k ≤ n ∧ i = .int .i64 k ∧ (rs.take k).any longR = false ∧ Below w.heap.size w wr) (fun i _ => n - (intOf i).toNat)
  case atStart => exact ⟨0, Nat.zero_le _, rfl, rfl, Below.refl _ _⟩
  case round =>
    obtain ⟨k, hk, rfl, hal, hnx⟩ := hrel
    have HA := Hid.mk hal
    clear hal
    by_cases hlt : k < n
    · have hk2 : k < rs.length := by have := HN.out; omega
      obtain ⟨u, hu, hrow⟩ := hc k hk2
      have hu' := (hnx.cell (p := ⟨b, o + k, none⟩) hb).trans hu
      have hq := small2_any u rs[k] wr (hrow.below hnx)
      obtain ⟨a3, c3, rfl, -, -⟩ := hrow
      have HQ := Hid.mk hq
      clear hq hu
      cases hp : longR rs[k]
      all_goals have HP := Hid.mk hp
      all_goals rw [hp] at HQ
      · go_wp2_with (go_at_call 54; refine HQ.out.mono ?_; rintro e w2 ⟨rfl, hb2⟩)
        go_roundw
        case rel => exact ⟨k + 1, by omega, by go_num, any_step hk2 HA.out HP.out, hnx.trans (hb2.mono hnx.size)⟩
        case measure => simp [intOf]; omega
      · go_wp2_with (go_at_call 54; refine HQ.out.mono ?_; rintro e w2 ⟨rfl, hb2⟩)
        go_ret
        exact ⟨k, rfl, ⟨by omega, by omega, by rw [any_hit hk2 HP.out]; simp⟩, hnx.trans (hb2.mono hnx.size)⟩
    · go_wp2
      go_ret
      exact ⟨-1, rfl, ⟨by omega, by omega, by have := HA.out; rw [List.take_of_length_le (by have := HN.out; omega)] at this; rw [this]; rfl⟩, hnx⟩
set_option maxHeartbeats 400000 in
theorem idxR_nil (a : Option Addr) (c : Nat) (f : Value) (w : World) :
    Calls Tryz.prog 92 #[.slice a 0 c, f] w fun e w' => ∃ r : Int, e = .returned (.int .i64 r) ∧ foundI r false ∧ Below w.heap.size w w' := by
  go_enter Tryz.func92, Tryz.ntmps92
  go_wp2
  go_loopw [8] (fun i wr => i = .int .i64 0 ∧ wr = w) (fun i _ => 0)
  case atStart => exact ⟨rfl, rfl⟩
  case round =>
    obtain ⟨rfl, rfl⟩ := hrel
    go_wp2
    go_ret
    exact ⟨-1, rfl, ⟨by omega, by omega, rfl⟩, Below.refl _ _⟩
theorem idxR_is (v : Value) (rs : List (List Vl)) (w : World) (h : RowsIs w v rs) (h8 : rs.length ≤ 65) :
    Calls Tryz.prog 92 #[v, .func (.func 54) #[] #[]] w fun e w' => ∃ r : Int, e = .returned (.int .i64 r) ∧ foundI r (rs.any longR) ∧ Below w.heap.size w w' := by
  obtain ⟨a, c, rfl, rfl | ⟨b, o, rfl, hl, hat⟩⟩ := h
  · exact idxR_nil _ _ _ _
  · exact idxR_any b o c rs.length rs w rfl (by omega) hl hat
set_option maxHeartbeats 400000 in
theorem hasR_any (v : Value) (rs : List (List Vl)) (w : World) (h : RowsIs w v rs) (h8 : rs.length ≤ 65) :
    Calls Tryz.prog 53 #[v, .func (.func 54) #[] #[]] w fun e w' => e = .returned (.bool (rs.any longR)) ∧ Below w.heap.size w w' := by
  have HQ := Hid.mk (idxR_is v rs w h h8)
  obtain ⟨a, c, rfl, -⟩ := h
  go_enter Tryz.func53, Tryz.ntmps53
  go_wp2_with (go_at_call 92; refine HQ.out.mono ?_; rintro e w2 ⟨r, rfl, hf, hb2⟩; have HF := Hid.mk hf; clear hf)
  all_goals go_ret
  all_goals exact ⟨ret_bool (by rw [← HF.out.2.2]), hb2⟩

theorem small_wide {cs : List Cl} {rs : List (List Vl)} (h : 8 < cs.length) : smallB cs rs = false := by
  unfold smallB; rw [decide_eq_true h]; rfl
theorem small_tall {cs : List Cl} {rs : List (List Vl)} (h : 65 < rs.length) : smallB cs rs = false := by
  unfold smallB; rw [decide_eq_true h]; simp
theorem small_named {cs : List Cl} {rs : List (List Vl)} (h : cs.any longC = true) : smallB cs rs = false := by
  unfold smallB; rw [h]; simp
theorem small_rest {cs : List Cl} {rs : List (List Vl)} (h8 : cs.length ≤ 8) (h65 : rs.length ≤ 65) (h : cs.any longC = false) : smallB cs rs = !(rs.any longR) := by
  unfold smallB; rw [decide_eq_false (by omega), decide_eq_false (by omega), h]; rfl

set_option maxHeartbeats 800000 in
theorem small_any (vc vr : Value) (cs : List Cl) (rs : List (List Vl)) (w : World) (hc : ColsIs w vc cs) (hr : RowsIs w vr rs) :
    Calls Tryz.prog 17 #[.agg #[vc, vr]] w fun e w' => e = .returned (.bool (smallB cs rs)) ∧ Below w.heap.size w w' := by
  have hc0 := hc.below (below_box w (.cells #[vc, vr] 36))
  have hr0 := hr.below (below_box w (.cells #[vc, vr] 36))
  by_cases h8 : cs.length ≤ 8
  · by_cases h65 : rs.length ≤ 65
    · have hQ := hasC_any vc cs _ hc0 h8
      have n8 : ¬ ((8 : Int) < (cs.length : Int)) := by omega
      have n65 : ¬ ((65 : Int) < (rs.length : Int)) := by omega
      cases g : cs.any longC
      · rw [g] at hQ
        have HQ := Hid.mk hQ
        have HR := Hid.mk (fun w2 (hb : Below (w.alloc (.cells #[vc, vr] 36)).heap.size (w.alloc (.cells #[vc, vr] 36)) w2) => hasR_any vr rs w2 (hr0.below hb) h65)
        have HB := Hid.mk (small_rest h8 h65 g)
        clear hQ g hc0 hr0
        obtain ⟨a, c, rfl, -, -, -⟩ := hc
        obtain ⟨a', c', rfl, -⟩ := hr
        go_enter Tryz.func17, Tryz.ntmps17
        go_wp2_with (first | (go_at_call 51; refine HQ.out.mono ?_; rintro e w2 ⟨rfl, hb2⟩; obtain ⟨hcb, hfb⟩ := bcell hb2) | (go_at_call 53; refine (HR.out _ hb2).mono ?_; rintro e w3 ⟨rfl, hb3⟩))
        all_goals go_ret
        all_goals exact ⟨ret_bool HB.out.symm, (below_box _ _).trans ((hb2.mono (by simp)).trans (hb3.mono (by have := hb2.size; simp at this; omega)))⟩
      · rw [g] at hQ
        have HQ := Hid.mk hQ
        have HB := Hid.mk (small_named (rs := rs) g)
        clear hQ g hc0 hr0
        obtain ⟨a, c, rfl, -, -, -⟩ := hc
        obtain ⟨a', c', rfl, -⟩ := hr
        go_enter Tryz.func17, Tryz.ntmps17
        go_wp2_with (go_at_call 51; refine HQ.out.mono ?_; rintro e w2 ⟨rfl, hb2⟩; obtain ⟨hcb, hfb⟩ := bcell hb2)
        all_goals go_ret
        all_goals exact ⟨ret_bool HB.out.symm, (below_box _ _).trans (hb2.mono (by simp))⟩
    · have HB := Hid.mk (small_tall (cs := cs) (rs := rs) (by omega))
      have n8 : ¬ ((8 : Int) < (cs.length : Int)) := by omega
      have n65 : (65 : Int) < (rs.length : Int) := by omega
      clear hc0 hr0
      obtain ⟨a, c, rfl, -, -, -⟩ := hc
      obtain ⟨a', c', rfl, -⟩ := hr
      go_enter Tryz.func17, Tryz.ntmps17
      go_wp2
      all_goals go_ret
      all_goals exact ⟨ret_bool HB.out.symm, below_box _ _⟩
  · have HB := Hid.mk (small_wide (cs := cs) (rs := rs) (by omega))
    have n8 : (8 : Int) < (cs.length : Int) := by omega
    clear hc0 hr0
    obtain ⟨a, c, rfl, -, -, -⟩ := hc
    obtain ⟨a', c', rfl, -⟩ := hr
    go_enter Tryz.func17, Tryz.ntmps17
    go_wp2
    all_goals go_ret
    all_goals exact ⟨ret_bool HB.out.symm, below_box _ _⟩
end Go.Proofs.YtjceppinfjbegaaGreatDoor

namespace Go.Proofs.YtjceppinfjbegaaGreatDoor
open Go.RowKit

set_option maxHeartbeats 800000 in
theorem eqC_in (b o c b' o' c' n : Nat) (cs : List Cl) (w : World) (hn : cs.length = n) (h8 : n ≤ 100) (hb : b < w.heap.size) (hb' : b' < w.heap.size) (hc : ColsAt w b o cs) (hc' : ColsAt w b' o' cs) :
    Calls Tryz.prog 65 #[.slice (some ⟨b, o, none⟩) n c, .slice (some ⟨b', o', none⟩) n c'] w fun e w' => e = .returned (.bool true) ∧ Below w.heap.size w w' := by
  have HN := Hid.mk hn
  clear hn
  go_enter Tryz.func65, Tryz.ntmps65
  go_wp2
  go_loopw [13] (fun i wr => ∃ k : Nat, k ≤ n ∧ i = .int .i64 k ∧ Below w.heap.size w wr) (fun i _ => n - (intOf i).toNat)
  case atStart => exact ⟨0, Nat.zero_le _, rfl, Below.refl _ _⟩
  case round =>
    obtain ⟨k, hk, rfl, hnx⟩ := hrel
    by_cases hlt : k < n
    · have hk2 : k < cs.length := by have := HN.out; omega
      obtain ⟨c1, c2⟩ := hc k hk2
      have d1 := (hnx.cell (p := ⟨b, o + k * 2, none⟩) hb).trans c1
      have d2 := (hnx.cell (p := ⟨b, o + k * 2 + 1, none⟩) hb).trans c2
      obtain ⟨c3, c4⟩ := hc' k hk2
      have d3 := (hnx.cell (p := ⟨b', o' + k * 2, none⟩) hb').trans c3
      have d4 := (hnx.cell (p := ⟨b', o' + k * 2 + 1, none⟩) hb').trans c4
      clear c1 c2 c3 c4
      go_wp2
      go_quiet (fail)
      go_wp2
      go_roundw
      case rel => exact ⟨k + 1, by omega, by go_num, below_drewN hnx _⟩
      case measure => simp [intOf]; omega
    · go_wp2
      go_ret
      exact ⟨rfl, hnx⟩

set_option maxHeartbeats 400000 in
theorem eqC_nil (a a' : Option Addr) (c c' : Nat) (w : World) :
    Calls Tryz.prog 65 #[.slice a 0 c, .slice a' 0 c'] w fun e w' => e = .returned (.bool true) ∧ Below w.heap.size w w' := by
  go_enter Tryz.func65, Tryz.ntmps65
  go_wp2
  go_loopw [13] (fun i wr => i = .int .i64 0 ∧ wr = w) (fun i _ => 0)
  case atStart => exact ⟨rfl, rfl⟩
  case round =>
    obtain ⟨rfl, rfl⟩ := hrel
    go_wp2
    go_ret
    exact ⟨rfl, Below.refl _ _⟩
theorem eqC_is (v v' : Value) (cs : List Cl) (w : World) (h : ColsIs w v cs) (h' : ColsIs w v' cs) (h8 : cs.length ≤ 60) :
    Calls Tryz.prog 65 #[v, v'] w fun e w' => e = .returned (.bool true) ∧ Below w.heap.size w w' := by
  obtain ⟨a, c, rfl, -, -, hh⟩ := h
  obtain ⟨a', c', rfl, -, -, hh'⟩ := h'
  rcases hh with rfl | ⟨b, o, rfl, hl, hat⟩
  · exact eqC_nil _ _ _ _ _
  · rcases hh' with rfl | ⟨b', o', rfl, hl', hat'⟩
    · exact eqC_nil _ _ _ _ _
    · exact eqC_in b o c b' o' c' cs.length cs w rfl (by omega) hl hl' hat hat'

end Go.Proofs.YtjceppinfjbegaaGreatDoor

namespace Go.Proofs.YtjceppinfjbegaaGreatDoor
open Go.RowKit

/-- A list of texts. -/
def StrsIs (w : World) (v : Value) (ss : List ByteArray) : Prop := ∃ a c, v = .slice a ss.length c ∧ (∀ s ∈ ss, s.size ≤ maxLen) ∧ (ss = [] ∨ ∃ b o, a = some ⟨b, o, none⟩ ∧ b < w.heap.size ∧ StrsAt w b o ss)
theorem StrsIs.below {w w' : World} {v : Value} {ss : List ByteArray} (h : StrsIs w v ss) (hb : Below w.heap.size w w') : StrsIs w' v ss := by
  obtain ⟨a, c, e, hs, h⟩ := h
  refine ⟨a, c, e, hs, ?_⟩
  rcases h with h | ⟨b, o, e2, hl, hat⟩
  · exact Or.inl h
  · exact Or.inr ⟨b, o, e2, Nat.lt_of_lt_of_le hl hb.size, hat.below hb hl⟩

/-- A bool is told. -/
def SomeBool (e : Ending) : Prop := ∃ bb, e = .returned (.bool bb)
/-- A job's texts are as long as may be. -/
def Jb.sized (j : Jb) : Prop := j.op.size ≤ maxLen ∧ j.left.1.size ≤ maxLen ∧ j.right.1.size ≤ maxLen ∧ j.left.2.2.2.size ≤ maxLen ∧ j.right.2.2.2.size ≤ maxLen

end Go.Proofs.YtjceppinfjbegaaGreatDoor

