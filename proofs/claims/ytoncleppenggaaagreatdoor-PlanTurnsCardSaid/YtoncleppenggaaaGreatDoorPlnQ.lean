import Derived.Test.YtoncleppenggaaaGreatDoorPlnP
set_option linter.unusedSimpArgs false
set_option linter.unusedVariables false
namespace Go.Proofs.YtoncleppenggaaaGreatDoor.Pl
open Go.RowKit Go.Maps
open Fw (By FJob Flw ba strV encL zeroJ)

theorem fenv_below {w w' : World} (h : Fw.FEnv w) (hb : Below w.heap.size w w') : Fw.FEnv w' := h.blocks hb.size fun g hg => hb.block g (h.size g hg)
theorem flowO_below {w w' : World} {B : Nat} {f : Flw} {vi vj vo : Value} (h : Fw.FlowO w B f.ins vi f.jobs vj f.outs vo) (hb : Below w.heap.size w w') : Fw.FlowO w' B f.ins vi f.jobs vj f.outs vo := h.imp (fun e z n v xs ho => owns_below ho hb)
/-- What right comes to. -/
def RightR (s : By) (w : World) (e : Ending) (w' : World) : Prop := Below w.heap.size w w' ∧
  ((∃ f o m vi vj vo, Fw.parseF s = .ok f ∧ CheckOK f o m ∧ e = .returned (.tuple #[.agg #[vi, vj, vo], .bool true]) ∧ Fw.FlowRd w' f vi vj vo ∧ Fw.FlwOK f) ∨
   (∃ a1 n1 c1 a2 n2 c2 a3 n3 c3, e = .returned (.tuple #[.agg #[.slice a1 n1 c1, .slice a2 n2 c2, .slice a3 n3 c3], .bool false])))
set_option maxRecDepth 100000 in
set_option maxHeartbeats 1600000 in
theorem right_any (s : By) (w : World) (hE : Fw.FEnv w) (hgl : GErr w) (hs : (ba s).size ≤ maxLen) :
    Calls Tryz.prog 6 #[.string (ba s)] w fun e w' => RightR s w e w' := by
  have hsz : (ba s).size = s.length := rfl
  obtain ⟨w1, hw1⟩ : ∃ x, w.alloc (.cells #[.slice none 0 0, .slice none 0 0, .slice none 0 0] 27) = x := ⟨_, rfl⟩
  have hB1 : Below w.heap.size w w1 := by rw [← hw1]; exact below_box _ _
  have hX1 : Fw.Box w1 w.heap.size [.slice none 0 0, .slice none 0 0, .slice none 0 0] := by rw [← hw1]; exact Fw.Box.new w _ _ _ rfl
  have hs1 : w1.heap.size = w.heap.size + 1 := by rw [← hw1]; simp
  have HB1 := Hid.mk hB1
  have HX1 := Hid.mk hX1
  have HS1 := Hid.mk hs1
  have HE := Hid.mk (And.intro hE hgl)
  have hk0 := hX1.cell 0 (v := .slice none 0 0) rfl
  have hk1 := hX1.cell 1 (v := .slice none 0 0) rfl
  have hk2 := hX1.cell 2 (v := .slice none 0 0) rfl
  have hz0 := hX1.fz 0
  have hz1 := hX1.fz 1
  have hz2 := hX1.fz 2
  unfold maxLen at hs
  by_cases hl : 1000 < s.length
  · have hb : (1000 : Int) < ((ba s).size : Int) := by rw [hsz]; omega
    clear hE hgl hB1 hX1 hs1
    generalize ba s = x at *
    go_enter Tryz.func6, Tryz.ntmps6
    go_wp2
    have X2 := ((HX1.out.set 0 (.slice none 0 0)).set 1 (.slice none 0 0)).set 2 (.slice none 0 0)
    have z0 := X2.cell 0 (v := .slice none 0 0) rfl
    have z1 := X2.cell 1 (v := .slice none 0 0) rfl
    have z2 := X2.cell 2 (v := .slice none 0 0) rfl
    have B2 : Below w.heap.size w (((w1.setCell ⟨w.heap.size, 0, none⟩ (.slice none 0 0)).setCell ⟨w.heap.size, 1, none⟩ (.slice none 0 0)).setCell ⟨w.heap.size, 2, none⟩ (.slice none 0 0)) := ((HB1.out.setCell (p := ⟨w.heap.size, 0, none⟩) (Nat.le_refl _) _).setCell (p := ⟨w.heap.size, 1, none⟩) (Nat.le_refl _) _).setCell (p := ⟨w.heap.size, 2, none⟩) (Nat.le_refl _) _
    refine bodyPost_ret (v := .tuple #[.agg #[.slice none 0 0, .slice none 0 0, .slice none 0 0], .bool false]) (by simp [results, Tryz.results6, go_sem, z0, z1, z2]) rfl ?_
    exact ⟨B2, Or.inr ⟨_, _, _, _, _, _, _, _, _, rfl⟩⟩
  · have hb : ¬ (1000 : Int) < ((ba s).size : Int) := by rw [hsz]; omega
    have HP := Hid.mk (Fw.parse_any s w1 (by omega) (fenv_below hE hB1))
    clear hE hgl hB1 hX1 hs1
    generalize hbx : ba s = x at *
    clear hbx
    go_enter Tryz.func6, Tryz.ntmps6
    go_wp2_with (first | (go_at_call 17; fail))
    refine HP.out.mono ?_
    rintro e2 w2 ⟨⟨f, vi, vj, vo, hpf, rfl, hfl⟩ | ⟨er, b, hpf, rfl, -⟩, hb2⟩
    · have HFO := Hid.mk hfl
      have HPF := Hid.mk hpf
      obtain ⟨ia, ic, rfl⟩ := row_slice (Fw.FlowRd.of hfl).ins
      obtain ⟨ja, jc, rfl⟩ := row_slice (Fw.FlowRd.of hfl).jobs
      obtain ⟨oa, oc, rfl⟩ := row_slice (Fw.FlowRd.of hfl).outs
      have hfok := Fw.parse_ok (by omega) hpf
      obtain ⟨w3, hw3⟩ : ∃ x, w2.alloc (.cells #[.slice ia f.ins.length ic, .slice ja f.jobs.length jc, .slice oa f.outs.length oc] 27) = x := ⟨_, rfl⟩
      have hb23 : Below w2.heap.size w2 w3 := by rw [← hw3]; exact below_box _ _
      have hF3 : FBox w3 w2.heap.size (.slice ia f.ins.length ic) (.slice ja f.jobs.length jc) (.slice oa f.outs.length oc) := by rw [← hw3]; exact FBox.new _ _ _ _ _
      have hb13 : Below w1.heap.size w1 w3 := bel_then hb2 hb23
      have HFL3 := Hid.mk (flowO_below HFO.out hb23)
      have HCK := Hid.mk (check_any f _ _ _ w3 (Fw.FlowRd.of HFL3.out) hfok (cell_below (cell_below HE.out.2 HB1.out) hb13))
      have HB13 := Hid.mk hb13
      have HF3 := Hid.mk hF3
      have g1 := hF3.1
      have g2 := hF3.2.1
      have g3 := hF3.2.2
      have HFOK := Hid.mk hfok
      generalize hni : f.ins.length = ni at *
      generalize hnj : f.jobs.length = nj at *
      generalize hno : f.outs.length = no at *
      clear hfl hpf hb2 hb23 hF3 hb13 hfok
      go_wp2_with (first | (go_at_call 7; fail))
      refine HCK.out.mono ?_
      rintro e4 w4 ⟨hb4, ⟨o, m, A, b, hok, rfl, -, -, -, -⟩ | ⟨hno, ev, n, rfl, hn0, hat, -⟩⟩
      · have HOK := Hid.mk hok
        have hFd := (HF3.out.below hb4).below ((Below.refl _ w4).drew)
        have q1 := hFd.1
        have q2 := hFd.2.1
        have q3 := hFd.2.2
        have hXd : Fw.Box w4.drew w.heap.size [.slice none 0 0, .slice none 0 0, .slice none 0 0] := ((HX1.out.below HB13.out).below hb4).block rfl
        have c0 := hXd.cell 0 (v := .slice none 0 0) rfl
        have c1 := hXd.cell 1 (v := .slice none 0 0) rfl
        have c2 := hXd.cell 2 (v := .slice none 0 0) rfl
        have f0 := hXd.fz 0
        have f1 := hXd.fz 1
        have f2 := hXd.fz 2
        have hX4 : Fw.Box w4 w.heap.size [.slice none 0 0, .slice none 0 0, .slice none 0 0] := hXd.block rfl
        have d0 := hX4.cell 0 (v := .slice none 0 0) rfl
        have d1 := hX4.cell 1 (v := .slice none 0 0) rfl
        have d2 := hX4.cell 2 (v := .slice none 0 0) rfl
        have e0 := hX4.fz 0
        have e1 := hX4.fz 1
        have e2 := hX4.fz 2
        have HXd := Hid.mk hXd
        have HB4 : Hid (Below w.heap.size w w4.drew) := Hid.mk (HB1.out.trans ((bel_then HB13.out hb4).drew.mono HB1.out.size))
        have HFL4 := Hid.mk ((flowO_below HFL3.out hb4).imp (w' := w4.drew) (fun e z n v xs ho => owns_below ho ((Below.refl _ w4).drew)))
        clear hok hb4 hFd hXd
        go_wp2_with fail
        go_region_law (fail)
        all_goals go_wp2
        all_goals
          have X2 := ((HXd.out.set 0 (.slice ia ni ic)).set 1 (.slice ja nj jc)).set 2 (.slice oa no oc)
          have z0 := X2.cell 0 (v := .slice ia ni ic) rfl
          have z1 := X2.cell 1 (v := .slice ja nj jc) rfl
          have z2 := X2.cell 2 (v := .slice oa no oc) rfl
          have y0 : (((w4.setCell ⟨w.heap.size, 0, none⟩ (.slice ia ni ic)).setCell ⟨w.heap.size, 1, none⟩ (.slice ja nj jc)).setCell ⟨w.heap.size, 2, none⟩ (.slice oa no oc)).drew.cell? ⟨w.heap.size, 0, none⟩ = some (.slice ia ni ic) := z0
          have y1 : (((w4.setCell ⟨w.heap.size, 0, none⟩ (.slice ia ni ic)).setCell ⟨w.heap.size, 1, none⟩ (.slice ja nj jc)).setCell ⟨w.heap.size, 2, none⟩ (.slice oa no oc)).drew.cell? ⟨w.heap.size, 1, none⟩ = some (.slice ja nj jc) := z1
          have y2 : (((w4.setCell ⟨w.heap.size, 0, none⟩ (.slice ia ni ic)).setCell ⟨w.heap.size, 1, none⟩ (.slice ja nj jc)).setCell ⟨w.heap.size, 2, none⟩ (.slice oa no oc)).drew.cell? ⟨w.heap.size, 2, none⟩ = some (.slice oa no oc) := z2
          have FL5 := ((HFL4.out.imp (fun e z n v xs h => ownsRow_setCell_below h (a := ⟨w.heap.size, 0, none⟩) (by show w.heap.size < _; have := HS1.out; omega) (.slice ia ni ic))).imp (fun e z n v xs h => ownsRow_setCell_below h (a := ⟨w.heap.size, 1, none⟩) (by show w.heap.size < _; have := HS1.out; omega) (.slice ja nj jc))).imp (fun e z n v xs h => ownsRow_setCell_below h (a := ⟨w.heap.size, 2, none⟩) (by show w.heap.size < _; have := HS1.out; omega) (.slice oa no oc))
          have B2 := ((HB4.out.setCell (p := ⟨w.heap.size, 0, none⟩) (Nat.le_refl _) (.slice ia ni ic)).setCell (p := ⟨w.heap.size, 1, none⟩) (Nat.le_refl _) (.slice ja nj jc)).setCell (p := ⟨w.heap.size, 2, none⟩) (Nat.le_refl _) (.slice oa no oc)
          refine bodyPost_ret (v := .tuple #[.agg #[.slice ia ni ic, .slice ja nj jc, .slice oa no oc], .bool true]) (by simp [results, Tryz.results6, go_sem, z0, z1, z2, y0, y1, y2]) rfl ?_
          exact ⟨B2, Or.inl ⟨f, o, m, _, _, _, HPF.out, HOK.out, rfl, Fw.FlowRd.of FL5, HFOK.out⟩⟩
      · have hFd := (HF3.out.below hb4).below ((Below.refl _ w4).drew)
        have q1 := hFd.1
        have q2 := hFd.2.1
        have q3 := hFd.2.2
        have hXd : Fw.Box w4.drew w.heap.size [.slice none 0 0, .slice none 0 0, .slice none 0 0] := ((HX1.out.below HB13.out).below hb4).block rfl
        have c0 := hXd.cell 0 (v := .slice none 0 0) rfl
        have c1 := hXd.cell 1 (v := .slice none 0 0) rfl
        have c2 := hXd.cell 2 (v := .slice none 0 0) rfl
        have f0 := hXd.fz 0
        have f1 := hXd.fz 1
        have f2 := hXd.fz 2
        have hX4 : Fw.Box w4 w.heap.size [.slice none 0 0, .slice none 0 0, .slice none 0 0] := hXd.block rfl
        have d0 := hX4.cell 0 (v := .slice none 0 0) rfl
        have d1 := hX4.cell 1 (v := .slice none 0 0) rfl
        have d2 := hX4.cell 2 (v := .slice none 0 0) rfl
        have e0 := hX4.fz 0
        have e1 := hX4.fz 1
        have e2 := hX4.fz 2
        have HXd := Hid.mk hXd
        have HB4 : Hid (Below w.heap.size w w4.drew) := Hid.mk (HB1.out.trans ((bel_then HB13.out hb4).drew.mono HB1.out.size))
        obtain ⟨p, pl, rfl, -, -⟩ := hat
        clear hno hb4 hFd hXd
        go_wp2_with fail
        go_region_law (fail)
        all_goals go_wp2
        all_goals
          have X2 := ((HXd.out.set 0 (.slice ia ni ic)).set 1 (.slice ja nj jc)).set 2 (.slice oa no oc)
          have z0 := X2.cell 0 (v := .slice ia ni ic) rfl
          have z1 := X2.cell 1 (v := .slice ja nj jc) rfl
          have z2 := X2.cell 2 (v := .slice oa no oc) rfl
          have y0 : (((w4.setCell ⟨w.heap.size, 0, none⟩ (.slice ia ni ic)).setCell ⟨w.heap.size, 1, none⟩ (.slice ja nj jc)).setCell ⟨w.heap.size, 2, none⟩ (.slice oa no oc)).drew.cell? ⟨w.heap.size, 0, none⟩ = some (.slice ia ni ic) := z0
          have y1 : (((w4.setCell ⟨w.heap.size, 0, none⟩ (.slice ia ni ic)).setCell ⟨w.heap.size, 1, none⟩ (.slice ja nj jc)).setCell ⟨w.heap.size, 2, none⟩ (.slice oa no oc)).drew.cell? ⟨w.heap.size, 1, none⟩ = some (.slice ja nj jc) := z1
          have y2 : (((w4.setCell ⟨w.heap.size, 0, none⟩ (.slice ia ni ic)).setCell ⟨w.heap.size, 1, none⟩ (.slice ja nj jc)).setCell ⟨w.heap.size, 2, none⟩ (.slice oa no oc)).drew.cell? ⟨w.heap.size, 2, none⟩ = some (.slice oa no oc) := z2
          have B2 := ((HB4.out.setCell (p := ⟨w.heap.size, 0, none⟩) (Nat.le_refl _) (.slice ia ni ic)).setCell (p := ⟨w.heap.size, 1, none⟩) (Nat.le_refl _) (.slice ja nj jc)).setCell (p := ⟨w.heap.size, 2, none⟩) (Nat.le_refl _) (.slice oa no oc)
          refine bodyPost_ret (v := .tuple #[.agg #[.slice ia ni ic, .slice ja nj jc, .slice oa no oc], .bool false]) (by simp [results, Tryz.results6, go_sem, z0, z1, z2, y0, y1, y2]) rfl ?_
          exact ⟨B2, Or.inr ⟨_, _, _, _, _, _, _, _, _, rfl⟩⟩
    · obtain ⟨w3, hw3⟩ : ∃ x, w2.alloc (.cells #[.slice none 0 0, .slice none 0 0, .slice none 0 0] 27) = x := ⟨_, rfl⟩
      have hb23 : Below w2.heap.size w2 w3 := by rw [← hw3]; exact below_box _ _
      have hY3 : Fw.Box w3 w2.heap.size [.slice none 0 0, .slice none 0 0, .slice none 0 0] := by rw [← hw3]; exact Fw.Box.new w2 _ _ _ rfl
      have y0 := hY3.cell 0 (v := .slice none 0 0) rfl
      have y1 := hY3.cell 1 (v := .slice none 0 0) rfl
      have y2 := hY3.cell 2 (v := .slice none 0 0) rfl
      have yf0 := hY3.fz 0
      have yf1 := hY3.fz 1
      have yf2 := hY3.fz 2
      obtain ⟨w4, hw4⟩ : ∃ x, ((w3.setCell ⟨w2.heap.size, 0, none⟩ (.slice none 0 0)).setCell ⟨w2.heap.size, 1, none⟩ (.slice none 0 0)).setCell ⟨w2.heap.size, 2, none⟩ (.slice none 0 0) = x := ⟨_, rfl⟩
      have hl2 : w.heap.size ≠ w2.heap.size := by have := HX1.out.below hb2 |>.lt; omega
      have hXd : Fw.Box w4 w.heap.size [.slice none 0 0, .slice none 0 0, .slice none 0 0] := by
        rw [← hw4]
        exact ((((HX1.out.below hb2).below hb23).other _ _ hl2).other _ _ hl2).other _ _ hl2
      have c0 := hXd.cell 0 (v := .slice none 0 0) rfl
      have c1 := hXd.cell 1 (v := .slice none 0 0) rfl
      have c2 := hXd.cell 2 (v := .slice none 0 0) rfl
      have f0 := hXd.fz 0
      have f1 := hXd.fz 1
      have f2 := hXd.fz 2
      have HXd := Hid.mk hXd
      have HB4 : Hid (Below w.heap.size w w4) := Hid.mk (by
        have h3 := HB1.out.trans ((bel_then hb2 hb23).mono HB1.out.size)
        have hle : w.heap.size ≤ w2.heap.size := by have := (HX1.out.below hb2).lt; omega
        rw [← hw4]
        exact ((h3.setCell (p := ⟨w2.heap.size, 0, none⟩) hle _).setCell (p := ⟨w2.heap.size, 1, none⟩) hle _).setCell (p := ⟨w2.heap.size, 2, none⟩) hle _)
      clear hb2 hb23 hXd hpf hY3
      go_wp2
      have X2 := ((HXd.out.set 0 (.slice none 0 0)).set 1 (.slice none 0 0)).set 2 (.slice none 0 0)
      have z0 := X2.cell 0 (v := .slice none 0 0) rfl
      have z1 := X2.cell 1 (v := .slice none 0 0) rfl
      have z2 := X2.cell 2 (v := .slice none 0 0) rfl
      have B2 := ((HB4.out.setCell (p := ⟨w.heap.size, 0, none⟩) (Nat.le_refl _) (.slice none 0 0)).setCell (p := ⟨w.heap.size, 1, none⟩) (Nat.le_refl _) (.slice none 0 0)).setCell (p := ⟨w.heap.size, 2, none⟩) (Nat.le_refl _) (.slice none 0 0)
      refine bodyPost_ret (v := .tuple #[.agg #[.slice none 0 0, .slice none 0 0, .slice none 0 0], .bool false]) (by simp [results, Tryz.results6, go_sem, z0, z1, z2]) rfl ?_
      exact ⟨B2, Or.inr ⟨_, _, _, _, _, _, _, _, _, rfl⟩⟩
end Go.Proofs.YtoncleppenggaaaGreatDoor.Pl

