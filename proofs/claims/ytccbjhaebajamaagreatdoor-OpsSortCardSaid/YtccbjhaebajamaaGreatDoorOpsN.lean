import Derived.Test.YtccbjhaebajamaaGreatDoorOpsM
set_option linter.unusedSimpArgs false
set_option linter.unusedVariables false
namespace Go.Proofs.YtccbjhaebajamaaGreatDoor
open Go.RowKit

theorem rowsNew_slice {w : World} {B : Nat} {v : Value} {rs : List (List Vl)} (h : RowsNew w B v rs) : ∃ a c, v = .slice a rs.length c := by
  obtain ⟨us, h1, -⟩ := h
  exact own_slice h1
theorem tab_one {w : World} {B g : Nat} {t : Tb} (h : TabsNew w B g [t]) : ∃ ca cc ra rc, w.cell? ⟨g, 0, none⟩ = some (.slice ca t.1.length cc) ∧ w.cell? ⟨g, 1, none⟩ = some (.slice ra t.2.length rc) ∧ ColsNew w B (.slice ca t.1.length cc) t.1 ∧ RowsNew w B (.slice ra t.2.length rc) t.2 := by
  obtain ⟨vc, vr, d0, d1, hc, hr⟩ := h 0 (by simp)
  obtain ⟨ca, cc, rfl⟩ := own_slice hc.1
  obtain ⟨ra, rc, rfl⟩ := rowsNew_slice hr
  exact ⟨ca, cc, ra, rc, d0, d1, hc, hr⟩
/-- A job, its outputs told. -/
def Jb.withOuts (j : Jb) (v : Value) : Jb := { j with outs := v }

set_option maxRecDepth 100000 in
set_option maxHeartbeats 1600000 in
/-- one, where a job fails. -/
theorem one_bad (tb to_ ln tcap : Nat) (j : Jb) (n : Int) (w : World) (hcode : 1 ≤ j.code ∧ j.code ≤ 8) (hn : n ≠ 0)
    (hD : ∀ W H, Below w.heap.size w W → w.heap.size < H → Calls Tryz.prog 32 #[.agg (j.withOuts (.slice (some ⟨H, 0, none⟩) 1 2)).cells, .slice (some ⟨tb, to_, none⟩) ln tcap] W fun e w' => e = .returned (.tuple #[.slice none 0 0, errV n]) ∧ Below W.heap.size W w') :
    Calls Tryz.prog 9 #[.agg j.cells, .slice (some ⟨tb, to_, none⟩) ln tcap] w fun e w' => e = .returned (.tuple #[.agg #[.slice none 0 0, .slice none 0 0], .bool false]) ∧ Below w.heap.size w w' := by
  rw [errV_ne hn] at hD
  unfold Jb.withOuts Jb.cells at hD
  unfold Jb.cells
  simp only at hD
  have HD := Hid.mk hD
  have hq : j.code.tdiv 9 = 0 := by rw [Int.tdiv_eq_ediv_of_nonneg (by omega)]; omega
  clear hD hn hcode
  go_enter Tryz.func9, Tryz.ntmps9
  go_wp2_with (go_at_call 32; refine (HD.out _ _ (bel_box (bel_box (below_box _ _) _) _) (by omega)).mono ?_; rintro e w1 ⟨rfl, hb1⟩; obtain ⟨hc1, hf1⟩ := bcell hb1; have hz1 : w.heap.size + 1 < w1.heap.size := by (have := hb1.size; simp at this; omega))
  have hb01 := bel_then (bel_box (bel_box (below_box _ _) _) _) hb1
  have c0 : w1.cell? ⟨w.heap.size + 1, 0, none⟩ = some (.slice none 0 0) := by
    have h := hc1 (w.heap.size + 1) 0 (by simp)
    rw [h, World.cell?_alloc_past _ _ _ (by simp), World.cell?_alloc_at _ _ _ _ (by simp)]
    rfl
  have c1 : w1.cell? ⟨w.heap.size + 1, 1, none⟩ = some (.slice none 0 0) := by
    have h := hc1 (w.heap.size + 1) 1 (by simp)
    rw [h, World.cell?_alloc_past _ _ _ (by simp), World.cell?_alloc_at _ _ _ _ (by simp)]
    rfl
  clear hc1 hf1
  refine bodyPost_ret (v := .tuple #[.agg #[.slice none 0 0, .slice none 0 0], .bool false]) (by simp [results, Tryz.results9, go_sem, c0, c1]) rfl ⟨rfl, ?_⟩
  exact (hb01.setCell (by show w.heap.size ≤ w.heap.size + 1; omega) _).setCell (by show w.heap.size ≤ w.heap.size + 1; omega) _

set_option maxRecDepth 100000 in
set_option maxHeartbeats 1600000 in
/-- one, where a job makes a table. -/
theorem one_ok (tb to_ ln tcap : Nat) (j : Jb) (t : Tb) (w : World) (hcode : 1 ≤ j.code ∧ j.code ≤ 8)
    (hD : ∀ W H, Below w.heap.size w W → w.heap.size < H → Calls Tryz.prog 32 #[.agg (j.withOuts (.slice (some ⟨H, 0, none⟩) 1 2)).cells, .slice (some ⟨tb, to_, none⟩) ln tcap] W fun e w' => ∃ g c, e = .returned (.tuple #[.slice (some ⟨g, 0, none⟩) 1 c, .nilIface]) ∧ W.heap.size ≤ g ∧ g < w'.heap.size ∧ TabsNew w' W.heap.size g [t] ∧ Below W.heap.size W w') :
    Calls Tryz.prog 9 #[.agg j.cells, .slice (some ⟨tb, to_, none⟩) ln tcap] w fun e w' => ∃ vc vr, e = .returned (.tuple #[.agg #[vc, vr], .bool true]) ∧ ColsNew w' w.heap.size vc t.1 ∧ RowsNew w' w.heap.size vr t.2 ∧ Below w.heap.size w w' := by
  unfold Jb.withOuts Jb.cells at hD
  unfold Jb.cells
  simp only at hD
  have HD := Hid.mk hD
  have hq : j.code.tdiv 9 = 0 := by rw [Int.tdiv_eq_ediv_of_nonneg (by omega)]; omega
  clear hD hcode
  go_enter Tryz.func9, Tryz.ntmps9
  go_wp2_with fail
  refine (HD.out _ _ (bel_box (bel_box (below_box _ _) _) _) (by omega)).mono ?_
  rintro e w1 ⟨g, c, rfl, -, hg1, ht1, hb1⟩
  obtain ⟨hc1, hf1⟩ := bcell hb1
  have hz1 : w.heap.size + 1 < w1.heap.size := by have := hb1.size; simp at this; omega
  obtain ⟨ca, cc, ra, rc, d0, d1, hcn, hrn⟩ := tab_one ht1
  have HT := Hid.mk (And.intro ht1 (And.intro hcn hrn))
  clear ht1 hcn hrn
  go_wp2
  have hb01 := bel_then (bel_box (bel_box (below_box _ _) _) _) hb1
  have c0 : w1.cell? ⟨w.heap.size + 1, 0, none⟩ = some (.slice none 0 0) := by
    have h := hc1 (w.heap.size + 1) 0 (by simp)
    rw [h, World.cell?_alloc_past _ _ _ (by simp), World.cell?_alloc_at _ _ _ _ (by simp)]
    rfl
  have c1 : w1.cell? ⟨w.heap.size + 1, 1, none⟩ = some (.slice none 0 0) := by
    have h := hc1 (w.heap.size + 1) 1 (by simp)
    rw [h, World.cell?_alloc_past _ _ _ (by simp), World.cell?_alloc_at _ _ _ _ (by simp)]
    rfl
  clear hc1 hf1
  refine bodyPost_ret (v := .tuple #[.agg #[.slice ca t.1.length cc, .slice ra t.2.length rc], .bool true]) (by simp [results, Tryz.results9, go_sem, c0, c1]) rfl ⟨_, _, rfl, ?_, ?_, ?_⟩
  · exact (((HT.out.2.1.set (by simp)).set (by simp)).mono (by simp; omega))
  · exact (((HT.out.2.2.set (by simp)).set (by simp)).mono (by simp; omega))
  · exact (hb01.setCell (by show w.heap.size ≤ w.heap.size + 1; omega) _).setCell (by show w.heap.size ≤ w.heap.size + 1; omega) _
end Go.Proofs.YtccbjhaebajamaaGreatDoor
