import Derived.Test.YtipdkiafckapjaaGreatDoorOpsR
set_option linter.unusedSimpArgs false
set_option linter.unusedVariables false
namespace Go.Proofs.YtipdkiafckapjaaGreatDoor
open Go.RowKit

theorem Jb.size (j : Jb) : j.cells.size = 15 := rfl
/-- A cell of a job, set. -/
theorem JobAt.put {w : World} {N : Nat} {j j' : Jb} (h : JobAt w N j) (k : Nat) (x : Value) (hk : k < 15) (he : j'.cells = j.cells.set! k x) : JobAt (w.setCell ⟨N, k, none⟩ x) N j' := by
  intro q v hq
  rw [he, Array.set!_eq_setIfInBounds, Array.getElem?_setIfInBounds] at hq
  by_cases e : k = q
  · subst e
    rw [if_pos rfl, if_pos (by rw [Jb.size]; exact hk)] at hq
    injection hq with hq
    subst hq
    have h0 := h k (j.cells[k]'(by rw [Jb.size]; exact hk)) (Array.getElem?_eq_getElem _)
    exact World.cell?_setCell_same _ _ _ h0
  · rw [if_neg e] at hq
    exact (World.cell?_setCell_other _ _ _ _ (by intro e'; simp at e'; try omega)).trans (h q v hq)
/-- A job's cells may be written. -/
def JobFree (w : World) (N : Nat) : Prop := ∀ k, w.frozen? ⟨N, k, none⟩ = false
theorem JobFree.below {w w' : World} {N B : Nat} (h : JobFree w N) (hb : Below B w w') (hN : N < B) : JobFree w' N := fun k => (hb.frozen (p := ⟨N, k, none⟩) hN).trans (h k)
theorem JobFree.put {w : World} {N M k : Nat} {x : Value} (h : JobFree w N) : JobFree (w.setCell ⟨M, k, none⟩ x) N := fun q => by rw [World.frozen?_setCell]; exact h q
theorem JobFree.new (w : World) (o : Obj) (cs : Array Value) (t : TypeId) (ho : o = .cells cs t) : JobFree (w.alloc o) w.heap.size := fun k => by subst ho; simp
/-- What is told of one table by such a job. -/
def numT (j : Jb) (t : Tb) : Int := if rightB t.1 t.2 = false then 1 else testErr t.1 j
theorem num_of (j : Jb) (m : Nat) (t : Tb) (h : ((m : Int)) = (sizesI j.code).2) : testNo j m t = numT j t := by
  unfold testNo numT
  split
  · rfl
  · rw [if_neg (by simp [h])]
theorem num_zero {j : Jb} {t : Tb} (h : numT j t = 0) : rightB t.1 t.2 = true ∧ testErr t.1 j = 0 := by
  unfold numT at h
  split at h
  · cases h
  · rename_i h1
    exact ⟨by simpa using h1, h⟩
theorem tab_two {w : World} {B g : Nat} {t u : Tb} (h : TabsNew w B g [t, u]) : ∃ ca cc ra rc da dc ea ec, w.cell? ⟨g, 0, none⟩ = some (.slice ca t.1.length cc) ∧ w.cell? ⟨g, 1, none⟩ = some (.slice ra t.2.length rc) ∧ w.cell? ⟨g, 2, none⟩ = some (.slice da u.1.length dc) ∧ w.cell? ⟨g, 3, none⟩ = some (.slice ea u.2.length ec) ∧ ColsNew w B (.slice ca t.1.length cc) t.1 ∧ RowsNew w B (.slice ra t.2.length rc) t.2 ∧ ColsNew w B (.slice da u.1.length dc) u.1 ∧ RowsNew w B (.slice ea u.2.length ec) u.2 := by
  obtain ⟨vc, vr, d0, d1, hc, hr⟩ := h 0 (by simp)
  obtain ⟨vc', vr', d0', d1', hc', hr'⟩ := h 1 (by simp)
  obtain ⟨ca, cc, rfl⟩ := own_slice hc.1
  obtain ⟨ra, rc, rfl⟩ := rowsNew_slice hr
  obtain ⟨da, dc, rfl⟩ := own_slice hc'.1
  obtain ⟨ea, ec, rfl⟩ := rowsNew_slice hr'
  exact ⟨ca, cc, ra, rc, da, dc, ea, ec, d0, d1, d0', d1', hc, hr, hc', hr'⟩
theorem num_opp (j : Jb) (t : Tb) : numT j.opp t = numT j t := by unfold numT; rw [opp_err]

theorem put_1 (w : World) (H : Nat) (hH : w.heap.size = H) : (Instr.mapUpdate 43 (.map (some H)) (.string ⟨#[61]⟩) (.string ⟨#[60, 62]⟩)).run Tryz.prog (w.alloc (.map #[] 0)) = .ok () (w.alloc (.map #[⟨.string ⟨#[61]⟩, .string ⟨#[60, 62]⟩, 0⟩] 1)) := put_new w _ 0 _ _ H hH (by kernel_rfl)
theorem put_2 (w : World) (H : Nat) (hH : w.heap.size = H) : (Instr.mapUpdate 43 (.map (some H)) (.string ⟨#[60, 62]⟩) (.string ⟨#[61]⟩)).run Tryz.prog (w.alloc (.map #[⟨.string ⟨#[61]⟩, .string ⟨#[60, 62]⟩, 0⟩] 1)) = .ok () (w.alloc (.map #[⟨.string ⟨#[61]⟩, .string ⟨#[60, 62]⟩, 0⟩, ⟨.string ⟨#[60, 62]⟩, .string ⟨#[61]⟩, 1⟩] 2)) := put_new w _ 1 _ _ H hH (by kernel_rfl)
theorem put_3 (w : World) (H : Nat) (hH : w.heap.size = H) : (Instr.mapUpdate 43 (.map (some H)) (.string ⟨#[60]⟩) (.string ⟨#[62, 61]⟩)).run Tryz.prog (w.alloc (.map #[⟨.string ⟨#[61]⟩, .string ⟨#[60, 62]⟩, 0⟩, ⟨.string ⟨#[60, 62]⟩, .string ⟨#[61]⟩, 1⟩] 2)) = .ok () (w.alloc (.map #[⟨.string ⟨#[61]⟩, .string ⟨#[60, 62]⟩, 0⟩, ⟨.string ⟨#[60, 62]⟩, .string ⟨#[61]⟩, 1⟩, ⟨.string ⟨#[60]⟩, .string ⟨#[62, 61]⟩, 2⟩] 3)) := put_new w _ 2 _ _ H hH (by kernel_rfl)
theorem put_4 (w : World) (H : Nat) (hH : w.heap.size = H) : (Instr.mapUpdate 43 (.map (some H)) (.string ⟨#[62, 61]⟩) (.string ⟨#[60]⟩)).run Tryz.prog (w.alloc (.map #[⟨.string ⟨#[61]⟩, .string ⟨#[60, 62]⟩, 0⟩, ⟨.string ⟨#[60, 62]⟩, .string ⟨#[61]⟩, 1⟩, ⟨.string ⟨#[60]⟩, .string ⟨#[62, 61]⟩, 2⟩] 3)) = .ok () (w.alloc (.map #[⟨.string ⟨#[61]⟩, .string ⟨#[60, 62]⟩, 0⟩, ⟨.string ⟨#[60, 62]⟩, .string ⟨#[61]⟩, 1⟩, ⟨.string ⟨#[60]⟩, .string ⟨#[62, 61]⟩, 2⟩, ⟨.string ⟨#[62, 61]⟩, .string ⟨#[60]⟩, 3⟩] 4)) := put_new w _ 3 _ _ H hH (by kernel_rfl)
theorem put_5 (w : World) (H : Nat) (hH : w.heap.size = H) : (Instr.mapUpdate 43 (.map (some H)) (.string ⟨#[62]⟩) (.string ⟨#[60, 61]⟩)).run Tryz.prog (w.alloc (.map #[⟨.string ⟨#[61]⟩, .string ⟨#[60, 62]⟩, 0⟩, ⟨.string ⟨#[60, 62]⟩, .string ⟨#[61]⟩, 1⟩, ⟨.string ⟨#[60]⟩, .string ⟨#[62, 61]⟩, 2⟩, ⟨.string ⟨#[62, 61]⟩, .string ⟨#[60]⟩, 3⟩] 4)) = .ok () (w.alloc (.map #[⟨.string ⟨#[61]⟩, .string ⟨#[60, 62]⟩, 0⟩, ⟨.string ⟨#[60, 62]⟩, .string ⟨#[61]⟩, 1⟩, ⟨.string ⟨#[60]⟩, .string ⟨#[62, 61]⟩, 2⟩, ⟨.string ⟨#[62, 61]⟩, .string ⟨#[60]⟩, 3⟩, ⟨.string ⟨#[62]⟩, .string ⟨#[60, 61]⟩, 4⟩] 5)) := put_new w _ 4 _ _ H hH (by kernel_rfl)
theorem put_6 (w : World) (H : Nat) (hH : w.heap.size = H) : (Instr.mapUpdate 43 (.map (some H)) (.string ⟨#[60, 61]⟩) (.string ⟨#[62]⟩)).run Tryz.prog (w.alloc (.map #[⟨.string ⟨#[61]⟩, .string ⟨#[60, 62]⟩, 0⟩, ⟨.string ⟨#[60, 62]⟩, .string ⟨#[61]⟩, 1⟩, ⟨.string ⟨#[60]⟩, .string ⟨#[62, 61]⟩, 2⟩, ⟨.string ⟨#[62, 61]⟩, .string ⟨#[60]⟩, 3⟩, ⟨.string ⟨#[62]⟩, .string ⟨#[60, 61]⟩, 4⟩] 5)) = .ok () (w.alloc (.map #[⟨.string ⟨#[61]⟩, .string ⟨#[60, 62]⟩, 0⟩, ⟨.string ⟨#[60, 62]⟩, .string ⟨#[61]⟩, 1⟩, ⟨.string ⟨#[60]⟩, .string ⟨#[62, 61]⟩, 2⟩, ⟨.string ⟨#[62, 61]⟩, .string ⟨#[60]⟩, 3⟩, ⟨.string ⟨#[62]⟩, .string ⟨#[60, 61]⟩, 4⟩, ⟨.string ⟨#[60, 61]⟩, .string ⟨#[62]⟩, 5⟩] 6)) := put_new w _ 5 _ _ H hH (by kernel_rfl)
theorem get_lit (w : World) (op : ByteArray) (H : Nat) (hH : w.heap.size = H) : (Instr.lookup 43 (.map (some H)) (.string op) false).run Tryz.prog (w.alloc (.map #[⟨.string ⟨#[61]⟩, .string ⟨#[60, 62]⟩, 0⟩, ⟨.string ⟨#[60, 62]⟩, .string ⟨#[61]⟩, 1⟩, ⟨.string ⟨#[60]⟩, .string ⟨#[62, 61]⟩, 2⟩, ⟨.string ⟨#[62, 61]⟩, .string ⟨#[60]⟩, 3⟩, ⟨.string ⟨#[62]⟩, .string ⟨#[60, 61]⟩, 4⟩, ⟨.string ⟨#[60, 61]⟩, .string ⟨#[62]⟩, 5⟩] 6)) = .ok (.string ⟨(oppL op.data.toList).toArray⟩) (w.alloc (.map #[⟨.string ⟨#[61]⟩, .string ⟨#[60, 62]⟩, 0⟩, ⟨.string ⟨#[60, 62]⟩, .string ⟨#[61]⟩, 1⟩, ⟨.string ⟨#[60]⟩, .string ⟨#[62, 61]⟩, 2⟩, ⟨.string ⟨#[62, 61]⟩, .string ⟨#[60]⟩, 3⟩, ⟨.string ⟨#[62]⟩, .string ⟨#[60, 61]⟩, 4⟩, ⟨.string ⟨#[60, 61]⟩, .string ⟨#[62]⟩, 5⟩] 6)) := get_opp w op H hH

def Jb.with9 (j : Jb) (v : Value) : Jb := { j with code := 9, outs := v }
def Jb.with1 (j : Jb) (v : Value) : Jb := { j with code := 1, outs := v }

set_option maxRecDepth 100000 in
set_option maxHeartbeats 3200000 in
theorem split_any (j : Jb) (ss : List ByteArray) (vc vr : Value) (cs : List Cl) (rs : List (List Vl)) (w : World) (hss : StrsIs w j.cols ss) (hsl : ss.length ≤ maxLen) (hsz : j.sized) (hc : ColsIs w vc cs) (hr : RowsIs w vr rs) (hE : Env w) :
    Calls Tryz.prog 3 #[.agg j.cells, .agg #[vc, vr]] w fun e w' => e = .returned (.bool true) ∧ Below w.heap.size w w' := by
  have HSH := Hid.mk (fun W (hW : Below w.heap.size w W) => short_any j ss W (hss.below hW) hsz hsl)
  have hSM := fun W (hW : Below w.heap.size w W) => small_any vc vr cs rs W (hc.below hW) (hr.below hW)
  have HDN := Hid.mk (fun W (hW : Below w.heap.size w W) => done_any W (hE.below hW))
  have HCR := Hid.mk (And.intro hc (And.intro hr hsz))
  have hJ0 : JobAt ((w.alloc (.cells j.cells 28)).alloc (.cells #[vc, vr] 32)) w.heap.size j := (job_new w j _).below (below_box _ _) (by simp)
  have hF0 : JobFree ((w.alloc (.cells j.cells 28)).alloc (.cells #[vc, vr] 32)) w.heap.size := (JobFree.new w _ _ _ rfl).below (below_box _ _) (by simp)
  have hjv : ∃ oa m oc, j.outs = .slice oa m oc ∨ True := ⟨none, 0, 0, Or.inr trivial⟩
  clear hss hsl hsz hE hjv
  obtain ⟨va, vcp, rfl, -⟩ := hc
  obtain ⟨ra, rcp, rfl, -⟩ := hr
  unfold Jb.cells at HSH hJ0 hF0 ⊢
  have HJ0 := Hid.mk (And.intro hJ0 hF0)
  clear hJ0 hF0
  cases gs : smallB cs rs
  · simp only [gs] at hSM
    have HSM := Hid.mk hSM
    clear hSM gs
    go_enter Tryz.func3, Tryz.ntmps3
    go_wp2_with fail
    refine (HSH.out _ (bel_box (below_box _ _) _)).mono ?_
    rintro e w1 ⟨⟨bb, rfl⟩, hb1⟩
    have hb01 := bel_then (bel_box (below_box _ _) _) hb1
    have t0 : w1.cell? ⟨w.heap.size + 1, 0, none⟩ = some (.slice va cs.length vcp) := (hb1.cell (p := ⟨w.heap.size + 1, 0, none⟩) (by simp)).trans (by rw [World.cell?_alloc_at _ _ _ _ (by simp)]; rfl)
    have t1 : w1.cell? ⟨w.heap.size + 1, 1, none⟩ = some (.slice ra rs.length rcp) := (hb1.cell (p := ⟨w.heap.size + 1, 1, none⟩) (by simp)).trans (by rw [World.cell?_alloc_at _ _ _ _ (by simp)]; rfl)
    have HB1 := Hid.mk hb01
    clear hb1 hb01 HJ0
    cases bb
    · go_wp2
      go_ret
      exact ⟨rfl, HB1.out⟩
    · go_wp2_with (go_at_call 8; refine (HSM.out _ HB1.out).mono ?_; rintro e w2 ⟨rfl, hb2⟩)
      go_ret
      exact ⟨rfl, bel_then HB1.out hb2⟩
  · simp only [gs] at hSM
    have HSM := Hid.mk hSM
    clear hSM gs
    go_enter Tryz.func3, Tryz.ntmps3
    go_wp2_with fail
    refine (HSH.out _ (bel_box (below_box _ _) _)).mono ?_
    rintro e w1 ⟨⟨bb, rfl⟩, hb1⟩
    have hb01 := bel_then (bel_box (below_box _ _) _) hb1
    have t0 : w1.cell? ⟨w.heap.size + 1, 0, none⟩ = some (.slice va cs.length vcp) := (hb1.cell (p := ⟨w.heap.size + 1, 0, none⟩) (by simp)).trans (by rw [World.cell?_alloc_at _ _ _ _ (by simp)]; rfl)
    have t1 : w1.cell? ⟨w.heap.size + 1, 1, none⟩ = some (.slice ra rs.length rcp) := (hb1.cell (p := ⟨w.heap.size + 1, 1, none⟩) (by simp)).trans (by rw [World.cell?_alloc_at _ _ _ _ (by simp)]; rfl)
    have hJ1 := HJ0.out.1.below hb1 (by simp; omega)
    have hF1 := HJ0.out.2.below hb1 (by simp; omega)
    have hz1 : w.heap.size + 1 < w1.heap.size := by have := hb1.size; simp at this; omega
    have HB1 := Hid.mk hb01
    have HJ1 := Hid.mk (And.intro hJ1 hF1)
    clear hb1 hb01 HJ0 hJ1 hF1
    cases bb
    · go_wp2
      go_ret
      exact ⟨rfl, HB1.out⟩
    · go_wp2_with (first | (go_at_call 8; refine (HSM.out _ HB1.out).mono ?_; rintro e w2 ⟨rfl, hb2⟩) | (go_at_call 9; fail))
      have hb02 := bel_then HB1.out hb2
      refine (HDN.out _ hb02).mono ?_
      rintro e w3 ⟨rfl, hb3⟩
      have hb13 := bel_then hb2 hb3
      have hb03 := bel_then HB1.out hb13
      have hJ3 := HJ1.out.1.below hb13 (by omega)
      have hF3 := HJ1.out.2.below hb13 (by omega)
      have s0 := (hb13.cell (p := ⟨w.heap.size + 1, 0, none⟩) hz1).trans t0
      have s1 := (hb13.cell (p := ⟨w.heap.size + 1, 1, none⟩) hz1).trans t1
      have hz3 : w.heap.size + 1 < w3.heap.size := by have := hb13.size; omega
      have hy3 : w.heap.size < w3.heap.size := by omega
      have j0 : w3.cell? ⟨w.heap.size, 0, none⟩ = some (.int .i64 j.at_) := hJ3 0 _ rfl
      have j1 : w3.cell? ⟨w.heap.size, 1, none⟩ = some (.int .i64 j.code) := hJ3 1 _ rfl
      have j2 : w3.cell? ⟨w.heap.size, 2, none⟩ = some j.outs := hJ3 2 _ rfl
      have j3 : w3.cell? ⟨w.heap.size, 3, none⟩ = some j.ins := hJ3 3 _ rfl
      have j4 : w3.cell? ⟨w.heap.size, 4, none⟩ = some j.cols := hJ3 4 _ rfl
      have j5 : w3.cell? ⟨w.heap.size, 5, none⟩ = some (.string j.op) := hJ3 5 _ rfl
      have j6 : w3.cell? ⟨w.heap.size, 6, none⟩ = some (.string j.left.1) := hJ3 6 _ rfl
      have j7 : w3.cell? ⟨w.heap.size, 7, none⟩ = some (.int .i64 j.left.2.1) := hJ3 7 _ rfl
      have j8 : w3.cell? ⟨w.heap.size, 8, none⟩ = some (.int .i64 j.left.2.2.1) := hJ3 8 _ rfl
      have j9 : w3.cell? ⟨w.heap.size, 9, none⟩ = some (.string j.left.2.2.2) := hJ3 9 _ rfl
      have j10 : w3.cell? ⟨w.heap.size, 10, none⟩ = some (.string j.right.1) := hJ3 10 _ rfl
      have j11 : w3.cell? ⟨w.heap.size, 11, none⟩ = some (.int .i64 j.right.2.1) := hJ3 11 _ rfl
      have j12 : w3.cell? ⟨w.heap.size, 12, none⟩ = some (.int .i64 j.right.2.2.1) := hJ3 12 _ rfl
      have j13 : w3.cell? ⟨w.heap.size, 13, none⟩ = some (.string j.right.2.2.2) := hJ3 13 _ rfl
      have j14 : w3.cell? ⟨w.heap.size, 14, none⟩ = some (.int .i64 j.retry) := hJ3 14 _ rfl
      have f1 := hF3 1
      have f2 := hF3 2
      have H3 := Hid.mk (And.intro hJ3 (And.intro hF3 hb03))
      clear hb2 hb3 hb13 hb02 hb03 hJ3 hF3 HB1 HJ1 HDN HSM HSH t0 t1 hz1
      go_wp2_with fail
      obtain ⟨sl, hsl⟩ : ∃ v, v = Value.slice (some ⟨w3.heap.size, 0, none⟩) 2 2 := ⟨_, rfl⟩
      obtain ⟨X0, hX0⟩ : ∃ X, X = (w3.setCell ⟨w.heap.size, 1, none⟩ (.int .i64 9)).setCell ⟨w.heap.size, 2, none⟩ sl := ⟨_, rfl⟩
      have hJX : JobAt X0 w.heap.size (j.with9 sl) := by
        rw [hX0]
        exact (H3.out.1.put (j' := { j with code := 9 }) 1 _ (by decide) rfl).put 2 _ (by decide) rfl
      have hFX : JobFree X0 w.heap.size := by rw [hX0]; exact H3.out.2.1.put.put
      have hbX0 : Below w.heap.size w X0 := by rw [hX0]; exact (H3.out.2.2.setCell (Nat.le_refl _) _).setCell (Nat.le_refl _) _
      have hXs : X0.heap.size = w3.heap.size := by rw [hX0]; simp
      have x0 : X0.cell? ⟨w.heap.size + 1, 0, none⟩ = some (.slice va cs.length vcp) := by
        rw [hX0, World.cell?_setCell_other _ _ _ _ (by intro e; simp at e), World.cell?_setCell_other _ _ _ _ (by intro e; simp at e)]; exact s0
      have x1 : X0.cell? ⟨w.heap.size + 1, 1, none⟩ = some (.slice ra rs.length rcp) := by
        rw [hX0, World.cell?_setCell_other _ _ _ _ (by intro e; simp at e), World.cell?_setCell_other _ _ _ _ (by intro e; simp at e)]; exact s1
      have hT : TabsAt ((X0.alloc (.cells #[.string ⟨#[120]⟩, .string ⟨#[121]⟩] 9)).alloc (.cells #[.slice va cs.length vcp, .slice ra rs.length rcp] 32)) (w3.heap.size + 1) 0 [(cs, rs)] := tabs_new _ _ _ (cs, rs) _ _ (by simp [hXs]) (HCR.out.1.below (bel_box hbX0 _)) (HCR.out.2.1.below (bel_box hbX0 _))
      rw [← hsl]
      rw [← hX0]
      have HX := Hid.mk (And.intro hJX (And.intro hFX (And.intro hbX0 (And.intro hXs (And.intro x0 x1)))))
      subst hsl
      clear hX0 hJX hFX hbX0 x0 x1 s0 s1 H3 f1 f2 j0 j1 j2 j3 j4 j5 j6 j7 j8 j9 j10 j11 j12 j13 j14
      have hx := HCR.out.2.2.2.2.2.2
      have n9 : testNo (j.with9 (.slice (some ⟨w3.heap.size, 0, none⟩) 2 2)) 2 (cs, rs) = numT j (cs, rs) := num_of _ 2 _ rfl
      have n1 : ∀ H, testNo ((j.with1 (.slice (some ⟨w3.heap.size, 0, none⟩) 2 2)).withOuts (.slice (some ⟨H, 0, none⟩) 1 2)) 1 (cs, rs) = numT j (cs, rs) := fun H => num_of _ 1 _ rfl
      have n2 : ∀ H, testNo (((j.with1 (.slice (some ⟨w3.heap.size, 0, none⟩) 2 2)).opp).withOuts (.slice (some ⟨H, 0, none⟩) 1 2)) 1 (cs, rs) = numT j (cs, rs) := fun H => (num_of _ 1 _ rfl).trans (num_opp j _)
      by_cases hn : numT j (cs, rs) = 0
      · obtain ⟨hrt, hte⟩ := num_zero hn
        obtain ⟨hl1, hl2, hl3, hl4⟩ := right_len hrt
        obtain ⟨F, hF⟩ : ∃ F, rs.filter (testB cs j) = F := ⟨_, rfl⟩
        obtain ⟨G, hG⟩ : ∃ G, rs.filter (fun r => !testB cs j r) = G := ⟨_, rfl⟩
        have hFG : F.length + G.length = rs.length := by rw [← hF, ← hG]; exact filter_both _ _
        have hFr : ∀ r ∈ F, r.length ≤ 60 := fun r hr' => by rw [← hF] at hr'; have := hl4 r (List.mem_filter.1 hr').1; simp only at this hl2; omega
        have hGr : ∀ r ∈ G, r.length ≤ 60 := fun r hr' => by rw [← hG] at hr'; have := hl4 r (List.mem_filter.1 hr').1; simp only at this hl2; omega
        have hD := do_split (w3.heap.size + 1) 0 1 (cs, rs) (j.with9 (.slice (some ⟨w3.heap.size, 0, none⟩) 2 2)) (some ⟨w3.heap.size, 0, none⟩) 2 2 _ rfl rfl hT (by simp [hXs]) hx (by rw [n9]; exact hn)
        dsimp only at hD
        rw [show rs.filter (testB cs (j.with9 (.slice (some ⟨w3.heap.size, 0, none⟩) 2 2))) = F from hF, show rs.filter (fun r => !testB cs (j.with9 (.slice (some ⟨w3.heap.size, 0, none⟩) 2 2)) r) = G from hG] at hD
        unfold Jb.with9 Jb.cells at hD
        refine hD.mono ?_
        clear hD
        rintro e w5 ⟨g, c, rfl, hgl, hgu, ht5, hb5⟩
        obtain ⟨pa, pc, qa, qc, pa', pc', qa', qc', c0, c1, c2, c3, nc1, nr1, nc2, nr2⟩ := tab_two ht5
        obtain ⟨hJX, hFX, hbX0, -, x0, x1⟩ := HX.out
        have hb05 := bel_then (bel_box (below_box X0 _) _) hb5
        have hbw5 := bel_then hbX0 hb05
        have hJ5 := hJX.below hb05 (by omega)
        have hF5 := hFX.below hb05 (by omega)
        have y0 := (hb05.cell (p := ⟨w.heap.size + 1, 0, none⟩) (by show w.heap.size + 1 < X0.heap.size; omega)).trans x0
        have y1 := (hb05.cell (p := ⟨w.heap.size + 1, 1, none⟩) (by show w.heap.size + 1 < X0.heap.size; omega)).trans x1
        have hz5 : w.heap.size + 1 < w5.heap.size := by have := hb05.size; omega
        have hy5 : w.heap.size < w5.heap.size := by omega
        have hgN : w.heap.size < g := by simp at hgl; omega
        have hXN : w.heap.size < ((X0.alloc (.cells #[.string ⟨#[120]⟩, .string ⟨#[121]⟩] 9)).alloc (.cells #[.slice va cs.length vcp, .slice ra rs.length rcp] 32)).heap.size := by simp; omega
        have k0 : w5.cell? ⟨w.heap.size, 0, none⟩ = some (.int .i64 j.at_) := hJ5 0 _ rfl
        have k1 : w5.cell? ⟨w.heap.size, 1, none⟩ = some (.int .i64 9) := hJ5 1 _ rfl
        have k2 : w5.cell? ⟨w.heap.size, 2, none⟩ = some (.slice (some ⟨w3.heap.size, 0, none⟩) 2 2) := hJ5 2 _ rfl
        have k3 : w5.cell? ⟨w.heap.size, 3, none⟩ = some j.ins := hJ5 3 _ rfl
        have k4 : w5.cell? ⟨w.heap.size, 4, none⟩ = some j.cols := hJ5 4 _ rfl
        have k5 : w5.cell? ⟨w.heap.size, 5, none⟩ = some (.string j.op) := hJ5 5 _ rfl
        have k6 : w5.cell? ⟨w.heap.size, 6, none⟩ = some (.string j.left.1) := hJ5 6 _ rfl
        have k7 : w5.cell? ⟨w.heap.size, 7, none⟩ = some (.int .i64 j.left.2.1) := hJ5 7 _ rfl
        have k8 : w5.cell? ⟨w.heap.size, 8, none⟩ = some (.int .i64 j.left.2.2.1) := hJ5 8 _ rfl
        have k9 : w5.cell? ⟨w.heap.size, 9, none⟩ = some (.string j.left.2.2.2) := hJ5 9 _ rfl
        have k10 : w5.cell? ⟨w.heap.size, 10, none⟩ = some (.string j.right.1) := hJ5 10 _ rfl
        have k11 : w5.cell? ⟨w.heap.size, 11, none⟩ = some (.int .i64 j.right.2.1) := hJ5 11 _ rfl
        have k12 : w5.cell? ⟨w.heap.size, 12, none⟩ = some (.int .i64 j.right.2.2.1) := hJ5 12 _ rfl
        have k13 : w5.cell? ⟨w.heap.size, 13, none⟩ = some (.string j.right.2.2.2) := hJ5 13 _ rfl
        have k14 : w5.cell? ⟨w.heap.size, 14, none⟩ = some (.int .i64 j.retry) := hJ5 14 _ rfl
        have f1 := hF5 1
        have H5 := Hid.mk (And.intro hJ5 (And.intro hF5 hbw5))
        have HN := Hid.mk (And.intro (And.intro c0 (And.intro c1 (And.intro c2 c3))) (And.intro nc1 (And.intro nr1 (And.intro nc2 nr2))))
        have HQ := Hid.mk (And.intro hF (And.intro hG (And.intro hFG (And.intro hFr (And.intro hGr (And.intro hte (And.intro hl2 hl3)))))))
        clear hb5 hb05 hbw5 hJ5 hF5 hJX hFX hbX0 x0 x1 hT HX ht5 c0 c1 c2 c3 nc1 nr1 nc2 nr2 hF hG hFG hFr hGr hte hl1 hl2 hl3 hl4 hgl
        go_wp2_with fail
        have hbY0 : Below w.heap.size w (w5.setCell ⟨w.heap.size, 1, none⟩ (.int .i64 1)) := H5.out.2.2.setCell (Nat.le_refl _) _
        have hTY : TabsAt ((w5.setCell ⟨w.heap.size, 1, none⟩ (.int .i64 1)).alloc (.cells #[.slice va cs.length vcp, .slice ra rs.length rcp] 32)) w5.heap.size 0 [(cs, rs)] := tabs_new _ _ _ (cs, rs) _ _ (by simp) (HCR.out.1.below hbY0) (HCR.out.2.1.below hbY0)
        have hO := one_ok w5.heap.size 0 1 1 (j.with1 (.slice (some ⟨w3.heap.size, 0, none⟩) 2 2)) (cs, F) ((w5.setCell ⟨w.heap.size, 1, none⟩ (.int .i64 1)).alloc (.cells #[.slice va cs.length vcp, .slice ra rs.length rcp] 32)) ⟨by show (1 : Int) ≤ 1; decide, by show (1 : Int) ≤ 8; decide⟩ (fun W H hW hH => by
          have h := do_filter w5.heap.size 0 1 (cs, rs) ((j.with1 (.slice (some ⟨w3.heap.size, 0, none⟩) 2 2)).withOuts (.slice (some ⟨H, 0, none⟩) 1 2)) (some ⟨H, 0, none⟩) 1 2 W rfl rfl (hTY.below hW (by simp)) (by have := hW.size; simp at this; omega) hx (by rw [n1]; exact hn)
          dsimp only at h
          rw [show rs.filter (testB cs ((j.with1 (.slice (some ⟨w3.heap.size, 0, none⟩) 2 2)).withOuts (.slice (some ⟨H, 0, none⟩) 1 2))) = F from HQ.out.1] at h
          exact h)
        unfold Jb.with1 Jb.cells at hO
        refine hO.mono ?_
        clear hO
        rintro e w7 ⟨v1, v2, rfl, mc1, mr1, hb7⟩
        obtain ⟨ma, mc, rfl⟩ := own_slice mc1.1
        obtain ⟨mb, md, rfl⟩ := rowsNew_slice mr1
        have hb57 := bel_then (below_box _ _) hb7
        have hJ7 : JobAt w7 w.heap.size (j.with1 (.slice (some ⟨w3.heap.size, 0, none⟩) 2 2)) := (H5.out.1.put (j' := j.with1 (.slice (some ⟨w3.heap.size, 0, none⟩) 2 2)) 1 _ (by decide) rfl).below hb57 (by simpa using hy5)
        have hF7 : JobFree w7 w.heap.size := (H5.out.2.1.put (k := 1) (M := w.heap.size) (x := .int .i64 1)).below hb57 (by simpa using hy5)
        have hbw7 := bel_then hbY0 hb57
        have z0 : w7.cell? ⟨w.heap.size + 1, 0, none⟩ = some (.slice va cs.length vcp) := (hb57.cell (p := ⟨w.heap.size + 1, 0, none⟩) (by simpa using hz5)).trans ((World.cell?_setCell_other _ _ _ _ (by intro e; simp at e)).trans y0)
        have z1 : w7.cell? ⟨w.heap.size + 1, 1, none⟩ = some (.slice ra rs.length rcp) := (hb57.cell (p := ⟨w.heap.size + 1, 1, none⟩) (by simpa using hz5)).trans ((World.cell?_setCell_other _ _ _ _ (by intro e; simp at e)).trans y1)
        have hz7 : w.heap.size + 1 < w7.heap.size := by have := hb57.size; simp at this; omega
        have hy7 : w.heap.size < w7.heap.size := by omega
        have hg7 : g < w7.heap.size := by have := hb57.size; simp at this; omega
        have lk7 : ∀ k v, w5.cell? ⟨g, k, none⟩ = some v → w7.cell? ⟨g, k, none⟩ = some v := fun k v h => (hb57.cell (p := ⟨g, k, none⟩) (by simpa using hgu)).trans ((World.cell?_setCell_other _ _ _ _ (by intro e; simp at e; try omega)).trans h)
        have N7 := Hid.mk (And.intro (And.intro (lk7 0 _ HN.out.1.1) (And.intro (lk7 1 _ HN.out.1.2.1) (And.intro (lk7 2 _ HN.out.1.2.2.1) (lk7 3 _ HN.out.1.2.2.2)))) (And.intro (And.intro ((HN.out.2.1.set hXN).below hb57) (And.intro ((HN.out.2.2.1.set hXN).below hb57) (And.intro ((HN.out.2.2.2.1.set hXN).below hb57) ((HN.out.2.2.2.2.set hXN).below hb57)))) (And.intro mc1 mr1)))
        have hYN : w.heap.size < ((w5.setCell ⟨w.heap.size, 1, none⟩ (.int .i64 1)).alloc (.cells #[.slice va cs.length vcp, .slice ra rs.length rcp] 32)).heap.size := by simp; omega
        clear k0 k1 k2 k3 k4 k5 k6 k7 k8 k9 k10 k11 k12 k13 k14
        have l0 : w7.cell? ⟨w.heap.size, 0, none⟩ = some (.int .i64 j.at_) := hJ7 0 _ rfl
        have l1 : w7.cell? ⟨w.heap.size, 1, none⟩ = some (.int .i64 1) := hJ7 1 _ rfl
        have l2 : w7.cell? ⟨w.heap.size, 2, none⟩ = some (.slice (some ⟨w3.heap.size, 0, none⟩) 2 2) := hJ7 2 _ rfl
        have l3 : w7.cell? ⟨w.heap.size, 3, none⟩ = some j.ins := hJ7 3 _ rfl
        have l4 : w7.cell? ⟨w.heap.size, 4, none⟩ = some j.cols := hJ7 4 _ rfl
        have l5 : w7.cell? ⟨w.heap.size, 5, none⟩ = some (.string j.op) := hJ7 5 _ rfl
        have l6 : w7.cell? ⟨w.heap.size, 6, none⟩ = some (.string j.left.1) := hJ7 6 _ rfl
        have l7 : w7.cell? ⟨w.heap.size, 7, none⟩ = some (.int .i64 j.left.2.1) := hJ7 7 _ rfl
        have l8 : w7.cell? ⟨w.heap.size, 8, none⟩ = some (.int .i64 j.left.2.2.1) := hJ7 8 _ rfl
        have l9 : w7.cell? ⟨w.heap.size, 9, none⟩ = some (.string j.left.2.2.2) := hJ7 9 _ rfl
        have l10 : w7.cell? ⟨w.heap.size, 10, none⟩ = some (.string j.right.1) := hJ7 10 _ rfl
        have l11 : w7.cell? ⟨w.heap.size, 11, none⟩ = some (.int .i64 j.right.2.1) := hJ7 11 _ rfl
        have l12 : w7.cell? ⟨w.heap.size, 12, none⟩ = some (.int .i64 j.right.2.2.1) := hJ7 12 _ rfl
        have l13 : w7.cell? ⟨w.heap.size, 13, none⟩ = some (.string j.right.2.2.2) := hJ7 13 _ rfl
        have l14 : w7.cell? ⟨w.heap.size, 14, none⟩ = some (.int .i64 j.retry) := hJ7 14 _ rfl
        have f5 := hF7 5
        have H7 := Hid.mk (And.intro hJ7 (And.intro hF7 hbw7))
        clear hb7 hb57 hbw7 hJ7 hF7 hbY0 hTY H5 y0 y1 f1 lk7 HN mc1 mr1
        have hmm := @run_makeMap Tryz.prog
        have u1 := put_1
        have u2 := put_2
        have u3 := put_3
        have u4 := put_4
        have u5 := put_5
        have u6 := put_6
        have ug := get_lit
        go_wp2_with fail
        obtain ⟨oo, hoo⟩ : ∃ o : ByteArray, o = ⟨(oppL j.op.data.toList).toArray⟩ := ⟨_, rfl⟩
        have hbZ0 : Below w.heap.size w (w7.setCell ⟨w.heap.size, 5, none⟩ (.string oo)) := H7.out.2.2.setCell (Nat.le_refl _) _
        obtain ⟨mo, hmo⟩ : ∃ o, o = Obj.map #[⟨.string ⟨#[61]⟩, .string ⟨#[60, 62]⟩, 0⟩, ⟨.string ⟨#[60, 62]⟩, .string ⟨#[61]⟩, 1⟩, ⟨.string ⟨#[60]⟩, .string ⟨#[62, 61]⟩, 2⟩, ⟨.string ⟨#[62, 61]⟩, .string ⟨#[60]⟩, 3⟩, ⟨.string ⟨#[62]⟩, .string ⟨#[60, 61]⟩, 4⟩, ⟨.string ⟨#[60, 61]⟩, .string ⟨#[62]⟩, 5⟩] 6 := ⟨_, rfl⟩
        rw [← hoo, ← hmo]
        obtain ⟨Z1, hZ1⟩ : ∃ Z, Z = (w7.setCell ⟨w.heap.size, 5, none⟩ (.string oo)).alloc (.cells #[.slice ma cs.length mc, .slice mb F.length md] 32) := ⟨_, rfl⟩
        have hZs : Z1.heap.size = w7.heap.size + 1 := by rw [hZ1]; simp
        have hbZ1 : Below w.heap.size w Z1 := by rw [hZ1]; exact bel_box hbZ0 _
        have yb0 : Z1.cell? ⟨w7.heap.size, 0, none⟩ = some (.slice ma cs.length mc) := by rw [hZ1, World.cell?_alloc_at _ _ _ _ (by simp)]; rfl
        have yb1 : Z1.cell? ⟨w7.heap.size, 1, none⟩ = some (.slice mb F.length md) := by rw [hZ1, World.cell?_alloc_at _ _ _ _ (by simp)]; rfl
        have zt1 : Z1.cell? ⟨w.heap.size + 1, 1, none⟩ = some (.slice ra rs.length rcp) := by
          rw [hZ1, World.cell?_alloc_past _ _ _ (by simpa using hz7)]
          exact (World.cell?_setCell_other _ _ _ _ (by intro e; simp at e)).trans z1
        have lk9 : ∀ k v, w7.cell? ⟨g, k, none⟩ = some v → Z1.cell? ⟨g, k, none⟩ = some v := fun k v h => by
          rw [hZ1, World.cell?_alloc_past _ _ _ (by simpa using hg7)]
          exact (World.cell?_setCell_other _ _ _ _ (by intro e; simp at e; try omega)).trans h
        have toZ : ∀ B v ccs, w.heap.size < B → ColsNew w7 B v ccs → ColsNew Z1 B v ccs := fun B v ccs hB h => by rw [hZ1]; exact (h.set hB).below (below_box _ _)
        have toZr : ∀ B v rrs, w.heap.size < B → RowsNew w7 B v rrs → RowsNew Z1 B v rrs := fun B v rrs hB h => by rw [hZ1]; exact (h.set hB).below (below_box _ _)
        have hTZ : TabsAt ((Z1.alloc mo).alloc (.cells #[.slice va cs.length vcp, .slice ra rs.length rcp] 32)) (w7.heap.size + 1 + 1) 0 [(cs, rs)] := tabs_new _ _ _ (cs, rs) _ _ (by simp [hZs]) (HCR.out.1.below (bel_box hbZ1 _)) (HCR.out.2.1.below (bel_box hbZ1 _))
        have hO := one_ok (w7.heap.size + 1 + 1) 0 1 1 ((j.with1 (.slice (some ⟨w3.heap.size, 0, none⟩) 2 2)).opp) (cs, G) ((Z1.alloc mo).alloc (.cells #[.slice va cs.length vcp, .slice ra rs.length rcp] 32)) ⟨by show (1 : Int) ≤ 1; decide, by show (1 : Int) ≤ 8; decide⟩ (fun W H hW hH => by
          have h := do_filter (w7.heap.size + 1 + 1) 0 1 (cs, rs) (((j.with1 (.slice (some ⟨w3.heap.size, 0, none⟩) 2 2)).opp).withOuts (.slice (some ⟨H, 0, none⟩) 1 2)) (some ⟨H, 0, none⟩) 1 2 W rfl rfl (hTZ.below hW (by simp [hZs])) (by have := hW.size; simp [hZs] at this; omega) hx (by rw [n2]; exact hn)
          dsimp only at h
          rw [show rs.filter (testB cs (((j.with1 (.slice (some ⟨w3.heap.size, 0, none⟩) 2 2)).opp).withOuts (.slice (some ⟨H, 0, none⟩) 1 2))) = G from (filter_opp cs (j.with1 (.slice (some ⟨w3.heap.size, 0, none⟩) 2 2)) HQ.out.2.2.2.2.2.1 rs).trans HQ.out.2.1] at h
          exact h)
        have hopp : ((j.with1 (.slice (some ⟨w3.heap.size, 0, none⟩) 2 2)).opp).op = oo := hoo.symm
        unfold Jb.cells at hO
        rw [hopp] at hO
        unfold Jb.opp Jb.with1 at hO
        rw [← hZ1]
        refine hO.mono ?_
        clear hO
        rintro e w9 ⟨v3, v4, rfl, kc1, kr1, hb9⟩
        obtain ⟨ka, kc, rfl⟩ := own_slice kc1.1
        obtain ⟨kb, kd, rfl⟩ := rowsNew_slice kr1
        have hb19 := bel_then (bel_box (below_box Z1 _) _) hb9
        have hbw9 := bel_then hbZ1 hb19
        have HW9 := Hid.mk (And.intro hb19 (And.intro hbw9 (And.intro kc1 kr1)))
        have HZZ := Hid.mk (And.intro (And.intro yb0 (And.intro yb1 zt1)) (And.intro (And.intro (lk9 0 _ N7.out.1.1) (And.intro (lk9 1 _ N7.out.1.2.1) (And.intro (lk9 2 _ N7.out.1.2.2.1) (lk9 3 _ N7.out.1.2.2.2)))) (And.intro (And.intro (toZ _ _ _ hXN N7.out.2.1.1) (And.intro (toZr _ _ _ hXN N7.out.2.1.2.1) (And.intro (toZ _ _ _ hXN N7.out.2.1.2.2.1) (toZr _ _ _ hXN N7.out.2.1.2.2.2)))) (And.intro (toZ _ _ _ hYN N7.out.2.2.1) (toZr _ _ _ hYN N7.out.2.2.2)))))
        have hs9 := hb19.size
        clear hb9 hTZ hbZ0 hopp l0 l1 l2 l3 l4 l5 l6 l7 l8 l9 l10 l11 l12 l13 l14 hmm u1 u2 u3 u4 u5 u6 ug z0 z1 f5 H7 hoo hmo yb0 yb1 zt1 lk9 toZ toZr hb19 hbw9 kc1 kr1 N7 hZ1 hbZ1
        go_wp2_with fail
        obtain ⟨W, hW⟩ : ∃ W, W = w9.alloc (.cells #[.slice ka cs.length kc, .slice kb G.length kd] 32) := ⟨_, rfl⟩
        rw [← hW]
        have hbZ : Below Z1.heap.size Z1 W := by rw [hW]; exact bel_box HW9.out.1 _
        have hb9 : Below w9.heap.size w9 W := by rw [hW]; exact below_box _ _
        have hbw : Below w.heap.size w W := by rw [hW]; exact bel_box HW9.out.2.1 _
        have q0 := cell_regrown ((hbZ.cell (p := ⟨g, 0, none⟩) (by show g < Z1.heap.size; omega)).trans HZZ.out.2.1.1)
        have q1 := cell_regrown ((hbZ.cell (p := ⟨g, 1, none⟩) (by show g < Z1.heap.size; omega)).trans HZZ.out.2.1.2.1)
        have q2 := cell_regrown ((hbZ.cell (p := ⟨g, 2, none⟩) (by show g < Z1.heap.size; omega)).trans HZZ.out.2.1.2.2.1)
        have q3 := cell_regrown ((hbZ.cell (p := ⟨g, 3, none⟩) (by show g < Z1.heap.size; omega)).trans HZZ.out.2.1.2.2.2)
        have q4 := cell_regrown ((hbZ.cell (p := ⟨w7.heap.size, 0, none⟩) (by show w7.heap.size < Z1.heap.size; omega)).trans HZZ.out.1.1)
        have q5 := cell_regrown ((hbZ.cell (p := ⟨w7.heap.size, 1, none⟩) (by show w7.heap.size < Z1.heap.size; omega)).trans HZZ.out.1.2.1)
        have q6 := cell_regrown ((hbZ.cell (p := ⟨w.heap.size + 1, 1, none⟩) (by show w.heap.size + 1 < Z1.heap.size; omega)).trans HZZ.out.1.2.2)
        have q7 := cell_regrown (show W.cell? ⟨w9.heap.size, 0, none⟩ = some (.slice ka cs.length kc) by rw [hW, World.cell?_alloc_at _ _ _ _ (by simp)]; rfl)
        have q8 := cell_regrown (show W.cell? ⟨w9.heap.size, 1, none⟩ = some (.slice kb G.length kd) by rw [hW, World.cell?_alloc_at _ _ _ _ (by simp)]; rfl)
        have C1 : ∀ (v1 v2 v3 v4 : Value), ((v1 = .slice pa cs.length pc ∧ v2 = .slice qa F.length qc ∧ v3 = .slice ma cs.length mc ∧ v4 = .slice mb F.length md) ∨ (v1 = .slice pa' cs.length pc' ∧ v2 = .slice qa' G.length qc' ∧ v3 = .slice ka cs.length kc ∧ v4 = .slice kb G.length kd)) → ∀ d os, Calls Tryz.prog 12 #[.agg #[v1, v2], .agg #[v3, v4]] (Sort.grow (redrawn W d) os) fun e w'' => e = .returned (.bool true) ∧ ∃ p : Regrown, w'' = Sort.grow (redrawn W p.d) p.os := by
          intro v1 v2 v3 v4 h d os
          have hg := below_regrown W d os
          have g1 := bel_then hbZ hg
          have g2 := bel_then hb9 hg
          obtain ⟨-, -, hFG, hFr, hGr, -, hl2, hl3⟩ := HQ.out
          rcases h with ⟨rfl, rfl, rfl, rfl⟩ | ⟨rfl, rfl, rfl, rfl⟩
          · exact Calls.regrown_of (same_any _ _ _ _ cs F _ (HZZ.out.2.2.1.1.below g1).is (HZZ.out.2.2.1.2.1.below g1).is (HZZ.out.2.2.2.1.below g1).is (HZZ.out.2.2.2.2.below g1).is (by omega) (by omega) hFr)
          · exact Calls.regrown_of (same_any _ _ _ _ cs G _ (HZZ.out.2.2.1.2.2.1.below g1).is (HZZ.out.2.2.1.2.2.2.below g1).is (HW9.out.2.2.1.below g2).is (HW9.out.2.2.2.below g2).is (by omega) (by omega) hGr)
        have HB := Hid.mk hbw
        have HL := Hid.mk HQ.out.2.2
        clear hbZ hb9 hbw hW HZZ HW9 HQ hXN hYN hn n1 n2 n9 HCR
        obtain ⟨nF, hnF⟩ : ∃ n, n = F.length := ⟨_, rfl⟩
        obtain ⟨nG, hnG⟩ : ∃ n, n = G.length := ⟨_, rfl⟩
        obtain ⟨nR, hnR⟩ : ∃ n, n = rs.length := ⟨_, rfl⟩
        obtain ⟨nC, hnC⟩ : ∃ n, n = cs.length := ⟨_, rfl⟩
        rw [← hnF, ← hnG, ← hnR] at HL
        simp only [← hnF, ← hnG, ← hnR, ← hnC] at q0 q1 q2 q3 q4 q5 q6 q7 q8 C1 ⊢
        have hadd : (.int .i64 (IntKind.wrap .i64 ((nF : Int) + nG)) : Value) = .int .i64 nR := by
          obtain ⟨h1, -, -, -, -, h2⟩ := HL.out
          have : (nF : Int) + nG = nR := by omega
          rw [this, IntWalk.i64_in _ (by omega)]
        clear hnF hnG hnR hnC
        refine wp_region_quiet_below (by kernel_rfl) (by kernel_rfl) ?_
        repeat (any_goals (first | go_big_quiet_step (exact C1 _ _ _ _ (by first | exact Or.inl ⟨rfl, rfl, rfl, rfl⟩ | exact Or.inr ⟨rfl, rfl, rfl, rfl⟩) _ _) | quiet_step (exact C1 _ _ _ _ (by first | exact Or.inl ⟨rfl, rfl, rfl, rfl⟩ | exact Or.inr ⟨rfl, rfl, rfl, rfl⟩) _ _)))
        refine wpQuiet_nil ?_
        intro _ hw'
        obtain ⟨⟨dq, osq⟩, hw''⟩ := hw'
        subst hw''
        clear q0 q1 q2 q3 q4 q5 q6 q7 q8 C1
        go_wp2
        go_ret
        exact ⟨rfl, bel_then HB.out (below_regrown _ _ _)⟩
      · have hD := do_test_bad (w3.heap.size + 1) 0 1 (cs, rs) (j.with9 (.slice (some ⟨w3.heap.size, 0, none⟩) 2 2)) (some ⟨w3.heap.size, 0, none⟩) 2 2 _ (Or.inr rfl) rfl hT (by simp [hXs]) hx (by rw [n9]; exact hn)
        rw [n9, errV_ne hn] at hD
        unfold Jb.with9 Jb.cells at hD
        refine hD.mono ?_
        clear hD
        rintro e w5 ⟨rfl, hb5⟩
        obtain ⟨hJX, hFX, hbX0, -, x0, x1⟩ := HX.out
        have hb05 := bel_then (bel_box (below_box X0 _) _) hb5
        have hbw5 := bel_then hbX0 hb05
        have hJ5 := hJX.below hb05 (by omega)
        have hF5 := hFX.below hb05 (by omega)
        have y0 := (hb05.cell (p := ⟨w.heap.size + 1, 0, none⟩) (by show w.heap.size + 1 < X0.heap.size; omega)).trans x0
        have y1 := (hb05.cell (p := ⟨w.heap.size + 1, 1, none⟩) (by show w.heap.size + 1 < X0.heap.size; omega)).trans x1
        have hz5 : w.heap.size + 1 < w5.heap.size := by have := hb05.size; omega
        have hy5 : w.heap.size < w5.heap.size := by omega
        have k0 : w5.cell? ⟨w.heap.size, 0, none⟩ = some (.int .i64 j.at_) := hJ5 0 _ rfl
        have k1 : w5.cell? ⟨w.heap.size, 1, none⟩ = some (.int .i64 9) := hJ5 1 _ rfl
        have k2 : w5.cell? ⟨w.heap.size, 2, none⟩ = some (.slice (some ⟨w3.heap.size, 0, none⟩) 2 2) := hJ5 2 _ rfl
        have k3 : w5.cell? ⟨w.heap.size, 3, none⟩ = some j.ins := hJ5 3 _ rfl
        have k4 : w5.cell? ⟨w.heap.size, 4, none⟩ = some j.cols := hJ5 4 _ rfl
        have k5 : w5.cell? ⟨w.heap.size, 5, none⟩ = some (.string j.op) := hJ5 5 _ rfl
        have k6 : w5.cell? ⟨w.heap.size, 6, none⟩ = some (.string j.left.1) := hJ5 6 _ rfl
        have k7 : w5.cell? ⟨w.heap.size, 7, none⟩ = some (.int .i64 j.left.2.1) := hJ5 7 _ rfl
        have k8 : w5.cell? ⟨w.heap.size, 8, none⟩ = some (.int .i64 j.left.2.2.1) := hJ5 8 _ rfl
        have k9 : w5.cell? ⟨w.heap.size, 9, none⟩ = some (.string j.left.2.2.2) := hJ5 9 _ rfl
        have k10 : w5.cell? ⟨w.heap.size, 10, none⟩ = some (.string j.right.1) := hJ5 10 _ rfl
        have k11 : w5.cell? ⟨w.heap.size, 11, none⟩ = some (.int .i64 j.right.2.1) := hJ5 11 _ rfl
        have k12 : w5.cell? ⟨w.heap.size, 12, none⟩ = some (.int .i64 j.right.2.2.1) := hJ5 12 _ rfl
        have k13 : w5.cell? ⟨w.heap.size, 13, none⟩ = some (.string j.right.2.2.2) := hJ5 13 _ rfl
        have k14 : w5.cell? ⟨w.heap.size, 14, none⟩ = some (.int .i64 j.retry) := hJ5 14 _ rfl
        have f1 := hF5 1
        have H5 := Hid.mk (And.intro hJ5 (And.intro hF5 hbw5))
        clear hb5 hb05 hbw5 hJ5 hF5 hJX hFX hbX0 x0 x1 hT HX
        go_wp2_with fail
        have hbY0 : Below w.heap.size w (w5.setCell ⟨w.heap.size, 1, none⟩ (.int .i64 1)) := H5.out.2.2.setCell (Nat.le_refl _) _
        have hTY : TabsAt ((w5.setCell ⟨w.heap.size, 1, none⟩ (.int .i64 1)).alloc (.cells #[.slice va cs.length vcp, .slice ra rs.length rcp] 32)) w5.heap.size 0 [(cs, rs)] := tabs_new _ _ _ (cs, rs) _ _ (by simp) (HCR.out.1.below hbY0) (HCR.out.2.1.below hbY0)
        have hO := one_bad w5.heap.size 0 1 1 (j.with1 (.slice (some ⟨w3.heap.size, 0, none⟩) 2 2)) (numT j (cs, rs)) ((w5.setCell ⟨w.heap.size, 1, none⟩ (.int .i64 1)).alloc (.cells #[.slice va cs.length vcp, .slice ra rs.length rcp] 32)) ⟨by show (1 : Int) ≤ 1; decide, by show (1 : Int) ≤ 8; decide⟩ hn (fun W H hW hH => by
          have h := do_test_bad w5.heap.size 0 1 (cs, rs) ((j.with1 (.slice (some ⟨w3.heap.size, 0, none⟩) 2 2)).withOuts (.slice (some ⟨H, 0, none⟩) 1 2)) (some ⟨H, 0, none⟩) 1 2 W (Or.inl rfl) rfl (hTY.below hW (by simp)) (by have := hW.size; simp at this; omega) hx (by rw [n1]; exact hn)
          rw [n1] at h
          exact h)
        unfold Jb.with1 Jb.cells at hO
        refine hO.mono ?_
        clear hO
        rintro e w7 ⟨rfl, hb7⟩
        have hb57 := bel_then (below_box _ _) hb7
        have hJ7 : JobAt w7 w.heap.size (j.with1 (.slice (some ⟨w3.heap.size, 0, none⟩) 2 2)) := (H5.out.1.put (j' := j.with1 (.slice (some ⟨w3.heap.size, 0, none⟩) 2 2)) 1 _ (by decide) rfl).below hb57 (by simpa using hy5)
        have hF7 : JobFree w7 w.heap.size := (H5.out.2.1.put (k := 1) (M := w.heap.size) (x := .int .i64 1)).below hb57 (by simpa using hy5)
        have hbw7 := bel_then hbY0 hb57
        have z0 : w7.cell? ⟨w.heap.size + 1, 0, none⟩ = some (.slice va cs.length vcp) := (hb57.cell (p := ⟨w.heap.size + 1, 0, none⟩) (by simpa using hz5)).trans ((World.cell?_setCell_other _ _ _ _ (by intro e; simp at e)).trans y0)
        have z1 : w7.cell? ⟨w.heap.size + 1, 1, none⟩ = some (.slice ra rs.length rcp) := (hb57.cell (p := ⟨w.heap.size + 1, 1, none⟩) (by simpa using hz5)).trans ((World.cell?_setCell_other _ _ _ _ (by intro e; simp at e)).trans y1)
        have hz7 : w.heap.size + 1 < w7.heap.size := by have := hb57.size; simp at this; omega
        have hy7 : w.heap.size < w7.heap.size := by omega
        clear k0 k1 k2 k3 k4 k5 k6 k7 k8 k9 k10 k11 k12 k13 k14
        have l0 : w7.cell? ⟨w.heap.size, 0, none⟩ = some (.int .i64 j.at_) := hJ7 0 _ rfl
        have l1 : w7.cell? ⟨w.heap.size, 1, none⟩ = some (.int .i64 1) := hJ7 1 _ rfl
        have l2 : w7.cell? ⟨w.heap.size, 2, none⟩ = some (.slice (some ⟨w3.heap.size, 0, none⟩) 2 2) := hJ7 2 _ rfl
        have l3 : w7.cell? ⟨w.heap.size, 3, none⟩ = some j.ins := hJ7 3 _ rfl
        have l4 : w7.cell? ⟨w.heap.size, 4, none⟩ = some j.cols := hJ7 4 _ rfl
        have l5 : w7.cell? ⟨w.heap.size, 5, none⟩ = some (.string j.op) := hJ7 5 _ rfl
        have l6 : w7.cell? ⟨w.heap.size, 6, none⟩ = some (.string j.left.1) := hJ7 6 _ rfl
        have l7 : w7.cell? ⟨w.heap.size, 7, none⟩ = some (.int .i64 j.left.2.1) := hJ7 7 _ rfl
        have l8 : w7.cell? ⟨w.heap.size, 8, none⟩ = some (.int .i64 j.left.2.2.1) := hJ7 8 _ rfl
        have l9 : w7.cell? ⟨w.heap.size, 9, none⟩ = some (.string j.left.2.2.2) := hJ7 9 _ rfl
        have l10 : w7.cell? ⟨w.heap.size, 10, none⟩ = some (.string j.right.1) := hJ7 10 _ rfl
        have l11 : w7.cell? ⟨w.heap.size, 11, none⟩ = some (.int .i64 j.right.2.1) := hJ7 11 _ rfl
        have l12 : w7.cell? ⟨w.heap.size, 12, none⟩ = some (.int .i64 j.right.2.2.1) := hJ7 12 _ rfl
        have l13 : w7.cell? ⟨w.heap.size, 13, none⟩ = some (.string j.right.2.2.2) := hJ7 13 _ rfl
        have l14 : w7.cell? ⟨w.heap.size, 14, none⟩ = some (.int .i64 j.retry) := hJ7 14 _ rfl
        have f5 := hF7 5
        have H7 := Hid.mk (And.intro hJ7 (And.intro hF7 hbw7))
        clear hb7 hb57 hbw7 hJ7 hF7 hbY0 hTY H5 y0 y1 f1
        have hmm := @run_makeMap Tryz.prog
        have u1 := put_1
        have u2 := put_2
        have u3 := put_3
        have u4 := put_4
        have u5 := put_5
        have u6 := put_6
        have ug := get_lit
        go_wp2_with fail
        obtain ⟨oo, hoo⟩ : ∃ o : ByteArray, o = ⟨(oppL j.op.data.toList).toArray⟩ := ⟨_, rfl⟩
        have hbZ0 : Below w.heap.size w (w7.setCell ⟨w.heap.size, 5, none⟩ (.string oo)) := H7.out.2.2.setCell (Nat.le_refl _) _
        obtain ⟨mo, hmo⟩ : ∃ o, o = Obj.map #[⟨.string ⟨#[61]⟩, .string ⟨#[60, 62]⟩, 0⟩, ⟨.string ⟨#[60, 62]⟩, .string ⟨#[61]⟩, 1⟩, ⟨.string ⟨#[60]⟩, .string ⟨#[62, 61]⟩, 2⟩, ⟨.string ⟨#[62, 61]⟩, .string ⟨#[60]⟩, 3⟩, ⟨.string ⟨#[62]⟩, .string ⟨#[60, 61]⟩, 4⟩, ⟨.string ⟨#[60, 61]⟩, .string ⟨#[62]⟩, 5⟩] 6 := ⟨_, rfl⟩
        rw [← hoo, ← hmo]
        have hTZ : TabsAt ((((w7.setCell ⟨w.heap.size, 5, none⟩ (.string oo)).alloc (.cells #[.slice none 0 0, .slice none 0 0] 32)).alloc mo).alloc (.cells #[.slice va cs.length vcp, .slice ra rs.length rcp] 32)) (w7.heap.size + 1 + 1) 0 [(cs, rs)] := tabs_new _ _ _ (cs, rs) _ _ (by simp) (HCR.out.1.below (bel_box (bel_box hbZ0 _) _)) (HCR.out.2.1.below (bel_box (bel_box hbZ0 _) _))
        have hO := one_bad (w7.heap.size + 1 + 1) 0 1 1 ((j.with1 (.slice (some ⟨w3.heap.size, 0, none⟩) 2 2)).opp) (numT j (cs, rs)) ((((w7.setCell ⟨w.heap.size, 5, none⟩ (.string oo)).alloc (.cells #[.slice none 0 0, .slice none 0 0] 32)).alloc mo).alloc (.cells #[.slice va cs.length vcp, .slice ra rs.length rcp] 32)) ⟨by show (1 : Int) ≤ 1; decide, by show (1 : Int) ≤ 8; decide⟩ hn (fun W H hW hH => by
          have h := do_test_bad (w7.heap.size + 1 + 1) 0 1 (cs, rs) (((j.with1 (.slice (some ⟨w3.heap.size, 0, none⟩) 2 2)).opp).withOuts (.slice (some ⟨H, 0, none⟩) 1 2)) (some ⟨H, 0, none⟩) 1 2 W (Or.inl rfl) rfl (hTZ.below hW (by simp)) (by have := hW.size; simp at this; omega) hx (by rw [n2]; exact hn)
          rw [n2] at h
          exact h)
        have hopp : ((j.with1 (.slice (some ⟨w3.heap.size, 0, none⟩) 2 2)).opp).op = oo := hoo.symm
        unfold Jb.cells at hO
        rw [hopp] at hO
        unfold Jb.opp Jb.with1 at hO
        refine hO.mono ?_
        clear hO
        rintro e w9 ⟨rfl, hb9⟩
        have hbw9 := bel_then (bel_box (bel_box (bel_box hbZ0 _) _) _) hb9
        clear hb9 hTZ hbZ0 hopp l0 l1 l2 l3 l4 l5 l6 l7 l8 l9 l10 l11 l12 l13 l14 hmm u1 u2 u3 u4 u5 u6 ug z0 z1 f5 H7 hoo hmo
        go_wp2
        go_ret
        exact ⟨rfl, bel_box hbw9 _⟩
end Go.Proofs.YtipdkiafckapjaaGreatDoor
