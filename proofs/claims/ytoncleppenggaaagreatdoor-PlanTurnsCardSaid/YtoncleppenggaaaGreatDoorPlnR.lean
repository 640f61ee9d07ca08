import Derived.Test.YtoncleppenggaaaGreatDoorPlnO
import Derived.Test.YtoncleppenggaaaGreatDoorTelH
import Derived.Shelf.Slices.Turned
import Derived.Shelf.Slices.Equal
import Derived.Ground.Names2Prog
import Derived.Shelf.Slices.Delete
import Derived.Shelf.Slices.Cells
import Derived.Shelf.Slices.Empties
import Derived.Shelf.Slices.Empties2
import Derived.Test.YtoncleppenggaaaGreatDoorProg
set_option linter.unusedSimpArgs false
set_option linter.unusedVariables false
namespace Go.Proofs.YtoncleppenggaaaGreatDoor.Pl
open Go.RowKit Go.Maps
open Fw (By FJob Flw ba strV encL zeroJ)

/-- A flow of which nothing is found. -/
def CheckOK (f : Flw) (o : List Nat) (m : CM) : Prop := Fine f ∧ ordF f = some o ∧ colsO colsE colsC f o = some m
/-- What Check comes to. -/
def CheckR (f : Flw) (w : World) (e : Ending) (w' : World) : Prop := Below w.heap.size w w' ∧
  ((∃ o m A b, CheckOK f o m ∧ e = .returned (.tuple #[.map (some b), .nilIface]) ∧ w.heap.size ≤ b ∧ MapC w' b A ∧ Holds2 w' A m ∧ ∀ c ∈ m, CsOK c.2) ∨
   ((¬ ∃ o m, CheckOK f o m) ∧ ∃ ev n, e = .returned (.tuple #[.map none, ev]) ∧ n ≠ 0 ∧ AtV w' ev n ∧ (Fine f → ordF f = none → n = 11)))
abbrev GErr (w : World) : Prop := w.cell? ⟨0, 0, none⟩ = some (.iface 147 (.agg #[.pointer (some ⟨10, 32, none⟩)]))
set_option maxRecDepth 100000 in
set_option maxHeartbeats 1600000 in
theorem check_any (f : Flw) (vi vj vo : Value) (w : World) (h : Fw.FlowRd w f vi vj vo) (hf : Fw.FlwOK f) (hgl : GErr w) :
    Calls Tryz.prog 7 #[.agg #[vi, vj, vo]] w fun e w' => CheckR f w e w' := by
  obtain ⟨ia, ic, rfl⟩ := row_slice h.ins
  obtain ⟨ja, jc, rfl⟩ := row_slice h.jobs
  obtain ⟨oa, oc, rfl⟩ := row_slice h.outs
  generalize f.ins.length = I at *
  generalize f.jobs.length = J at *
  generalize f.outs.length = O at *
  obtain ⟨w1, hw1⟩ : ∃ x, w.alloc (.cells #[.slice ia I ic, .slice ja J jc, .slice oa O oc] 27) = x := ⟨_, rfl⟩
  have hB1 : Below w.heap.size w w1 := by rw [← hw1]; exact below_box _ _
  have hF1 : FBox w1 w.heap.size (.slice ia I ic) (.slice ja J jc) (.slice oa O oc) := by rw [← hw1]; exact FBox.new _ _ _ _ _
  have HB1 := Hid.mk hB1
  have HF1 := Hid.mk hF1
  have HH := Hid.mk (And.intro (h.below hB1) (And.intro hf (cell_below hgl hB1)))
  have HW := Hid.mk (wrong_any f _ _ _ w1 (h.below hB1) hf)
  have g1 := hF1.1
  have g2 := hF1.2.1
  have g3 := hF1.2.2
  clear h hf hgl hB1 hF1
  go_enter Tryz.func7, Tryz.ntmps7
  go_wp2_with (first | (go_at_call 20; fail))
  refine HW.out.mono ?_
  rintro e2 w2 ⟨hb2, ⟨hok, rfl⟩ | ⟨hno, ev, n, rfl, hn0, hat, -⟩⟩
  · have HFI := Hid.mk hok
    have HB2 := Hid.mk hb2
    have HOR := Hid.mk (order_any f _ _ _ w2 (HH.out.1.below hb2) HH.out.2.1)
    have k0 := HF1.out.below hb2
    have k1 := k0.1
    have k2 := k0.2.1
    have k3 := k0.2.2
    clear hok hb2 k0
    go_wp2_with (first | (go_at_call 13; fail))
    refine HOR.out.mono ?_
    rintro e3 w3 ⟨hb3, ⟨hno, ev, rfl, hat⟩ | ⟨o, tv, hor, rfl, htv⟩⟩
    · have HNO : Hid ((¬ ∃ o m, CheckOK f o m) ∧ ordF f = none) := Hid.mk ⟨fun ⟨o, m, hc⟩ => (by rw [hc.2.1] at hno; cases hno), hno⟩
      have HA := Hid.mk hat
      have HB3 := Hid.mk (bel_then HB2.out hb3)
      obtain ⟨p, pl, rfl, -, -⟩ := hat
      clear hno hb3
      go_wp2
      refine bodyPost_ret (v := .tuple #[.map none, .iface 82 (.pointer (some ⟨p, 0, none⟩))]) (by simp [results, Tryz.results7, go_sem]) rfl ?_
      exact ⟨HB1.out.trans (HB3.out.mono HB1.out.size), Or.inr ⟨HNO.out.1, _, 11, rfl, by decide, HA.out, fun _ _ => rfl⟩⟩
    · have HG := Hid.mk (And.intro (ordF_good hor) hor)
      have hb13 := bel_then HB2.out hb3
      have HB3 := Hid.mk hb13
      have HCL := Hid.mk (columns_any f o _ _ _ tv w3 (HH.out.1.below hb13) HH.out.2.1 HFI.out (ordF_good hor) (IntsV.of htv) (cell_below HH.out.2.2 hb13))
      have k0 := HF1.out.below hb13
      have k4 := k0.1
      have k5 := k0.2.1
      have k6 := k0.2.2
      obtain ⟨ta, tc, rfl⟩ := own_slice htv
      clear hor hb3 hb13 htv k0
      go_wp2_with (first | (go_at_call 21; fail))
      refine HCL.out.mono ?_
      rintro e4 w4 ⟨hb4, ⟨hno, ev, n, rfl, hn0, hat⟩ | ⟨m, A, b, hm, rfl, hbb, hMC, hH2, hok⟩⟩
      · have HNO : Hid ((¬ ∃ o m, CheckOK f o m) ∧ n ≠ 0) := Hid.mk ⟨fun ⟨o', m, hc⟩ => (by
          obtain rfl : o = o' := Option.some.inj (HG.out.2.symm.trans hc.2.1)
          rw [hc.2.2] at hno; cases hno), hn0⟩
        have HA := Hid.mk hat
        have HB4 := Hid.mk (bel_then HB3.out hb4)
        obtain ⟨p, pl, rfl, -, -⟩ := hat
        clear hno hb4 hn0
        go_wp2
        refine bodyPost_ret (v := .tuple #[.map none, .iface 82 (.pointer (some ⟨p, 0, none⟩))]) (by simp [results, Tryz.results7, go_sem]) rfl ?_
        exact ⟨HB1.out.trans (HB4.out.mono HB1.out.size), Or.inr ⟨HNO.out.1, _, n, rfl, HNO.out.2, HA.out, fun _ q => by rw [HG.out.2] at q; cases q⟩⟩
      · have HOK : Hid (CheckOK f o m ∧ w3.heap.size ≤ b ∧ MapC w4 b A ∧ Holds2 w4 A m ∧ ∀ c ∈ m, CsOK c.2) := Hid.mk ⟨⟨HFI.out, HG.out.2, hm⟩, hbb, hMC, hH2, hok⟩
        have HB4 := Hid.mk (bel_then HB3.out hb4)
        clear hm hbb hMC hH2 hok hb4
        go_wp2
        refine bodyPost_ret (v := .tuple #[.map (some b), .nilIface]) (by simp [results, Tryz.results7, go_sem]) rfl ?_
        exact ⟨HB1.out.trans (HB4.out.mono HB1.out.size), Or.inl ⟨o, m, A, b, HOK.out.1, rfl, Nat.le_trans (Nat.le_trans HB1.out.size HB3.out.size) HOK.out.2.1, HOK.out.2.2.1, HOK.out.2.2.2.1, HOK.out.2.2.2.2⟩⟩
  · have HNO : Hid ((¬ ∃ o m, CheckOK f o m) ∧ n ≠ 0 ∧ ¬ Fine f) := Hid.mk ⟨fun ⟨o, m, hc⟩ => hno hc.1, hn0, hno⟩
    have HA := Hid.mk hat
    have HB2 := Hid.mk hb2
    obtain ⟨p, pl, rfl, -, -⟩ := hat
    clear hno hb2 hn0
    go_wp2
    refine bodyPost_ret (v := .tuple #[.map none, .iface 82 (.pointer (some ⟨p, 0, none⟩))]) (by simp [results, Tryz.results7, go_sem]) rfl ?_
    exact ⟨HB1.out.trans (HB2.out.mono HB1.out.size), Or.inr ⟨HNO.out.1, _, n, rfl, HNO.out.2.1, HA.out, fun q _ => absurd q HNO.out.2.2⟩⟩
end Go.Proofs.YtoncleppenggaaaGreatDoor.Pl

namespace Go.Proofs.YtoncleppenggaaaGreatDoor.Pl
open Go.RowKit Go.Maps
open Fw (By FJob Flw ba strV encL zeroJ)

theorem fenv_below {w w' : World} (h : Fw.FEnv w) (hb : Below w.heap.size w w') : Fw.FEnv w' := h.blocks hb.size fun g hg => hb.block g (h.size g hg)
theorem flowO_below {w w' : World} {B : Nat} {f : Flw} {vi vj vo : Value} (h : Fw.FlowO w B f.ins vi f.jobs vj f.outs vo) (hb : Below w.heap.size w w') : Fw.FlowO w' B f.ins vi f.jobs vj f.outs vo := h.imp (fun e z n v xs ho => owns_below ho hb)
/-- What right comes to. -/
def RightR (s : By) (w : World) (e : Ending) (w' : World) : Prop := Below w.heap.size w w' ∧
  ((∃ f o m vi vj vo, Fw.parseF s = .ok f ∧ CheckOK f o m ∧ e = .returned (.tuple #[.agg #[vi, vj, vo], .bool true]) ∧ Fw.FlowRd w' f vi vj vo ∧ Fw.FlwOK f) ∨
   (∃ a1 n1 c1 a2 n2 c2 a3 n3 c3, e = .returned (.tuple #[.agg #[.slice a1 n1 c1, .slice a2 n2 c2, .slice a3 n3 c3], .bool false])))
set_option maxRecDepth 100000 in
set_option maxHeartbeats 1600000 in
theorem right_any (s : By) (w : World) (hE : Fw.FEnv w) (hgl : GErr w) (hs : (ba s).size ≤ maxLen) :
    Calls Tryz.prog 6 #[.string (ba s)] w fun e w' => RightR s w e w' := by
  have hsz : (ba s).size = s.length := rfl
  obtain ⟨w1, hw1⟩ : ∃ x, w.alloc (.cells #[.slice none 0 0, .slice none 0 0, .slice none 0 0] 27) = x := ⟨_, rfl⟩
  have hB1 : Below w.heap.size w w1 := by rw [← hw1]; exact below_box _ _
  have hX1 : Fw.Box w1 w.heap.size [.slice none 0 0, .slice none 0 0, .slice none 0 0] := by rw [← hw1]; exact Fw.Box.new w _ _ _ rfl
  have hs1 : w1.heap.size = w.heap.size + 1 := by rw [← hw1]; simp
  have HB1 := Hid.mk hB1
  have HX1 := Hid.mk hX1
  have HS1 := Hid.mk hs1
  have HE := Hid.mk (And.intro hE hgl)
  have hk0 := hX1.cell 0 (v := .slice none 0 0) rfl
  have hk1 := hX1.cell 1 (v := .slice none 0 0) rfl
  have hk2 := hX1.cell 2 (v := .slice none 0 0) rfl
  have hz0 := hX1.fz 0
  have hz1 := hX1.fz 1
  have hz2 := hX1.fz 2
  unfold maxLen at hs
  by_cases hl : 1000 < s.length
  · have hb : (1000 : Int) < ((ba s).size : Int) := by rw [hsz]; omega
    clear hE hgl hB1 hX1 hs1
    generalize ba s = x at *
    go_enter Tryz.func6, Tryz.ntmps6
    go_wp2
    have X2 := ((HX1.out.set 0 (.slice none 0 0)).set 1 (.slice none 0 0)).set 2 (.slice none 0 0)
    have z0 := X2.cell 0 (v := .slice none 0 0) rfl
    have z1 := X2.cell 1 (v := .slice none 0 0) rfl
    have z2 := X2.cell 2 (v := .slice none 0 0) rfl
    have B2 : Below w.heap.size w (((w1.setCell ⟨w.heap.size, 0, none⟩ (.slice none 0 0)).setCell ⟨w.heap.size, 1, none⟩ (.slice none 0 0)).setCell ⟨w.heap.size, 2, none⟩ (.slice none 0 0)) := ((HB1.out.setCell (p := ⟨w.heap.size, 0, none⟩) (Nat.le_refl _) _).setCell (p := ⟨w.heap.size, 1, none⟩) (Nat.le_refl _) _).setCell (p := ⟨w.heap.size, 2, none⟩) (Nat.le_refl _) _
    refine bodyPost_ret (v := .tuple #[.agg #[.slice none 0 0, .slice none 0 0, .slice none 0 0], .bool false]) (by simp [results, Tryz.results6, go_sem, z0, z1, z2]) rfl ?_
    exact ⟨B2, Or.inr ⟨_, _, _, _, _, _, _, _, _, rfl⟩⟩
  · have hb : ¬ (1000 : Int) < ((ba s).size : Int) := by rw [hsz]; omega
    have HP := Hid.mk (Fw.parse_any s w1 (by omega) (fenv_below hE hB1))
    clear hE hgl hB1 hX1 hs1
    generalize hbx : ba s = x at *
    clear hbx
    go_enter Tryz.func6, Tryz.ntmps6
    go_wp2_with (first | (go_at_call 17; fail))
    refine HP.out.mono ?_
    rintro e2 w2 ⟨⟨f, vi, vj, vo, hpf, rfl, hfl⟩ | ⟨er, b, hpf, rfl, -⟩, hb2⟩
    · have HFO := Hid.mk hfl
      have HPF := Hid.mk hpf
      obtain ⟨ia, ic, rfl⟩ := row_slice (Fw.FlowRd.of hfl).ins
      obtain ⟨ja, jc, rfl⟩ := row_slice (Fw.FlowRd.of hfl).jobs
      obtain ⟨oa, oc, rfl⟩ := row_slice (Fw.FlowRd.of hfl).outs
      have hfok := Fw.parse_ok (by omega) hpf
      obtain ⟨w3, hw3⟩ : ∃ x, w2.alloc (.cells #[.slice ia f.ins.length ic, .slice ja f.jobs.length jc, .slice oa f.outs.length oc] 27) = x := ⟨_, rfl⟩
      have hb23 : Below w2.heap.size w2 w3 := by rw [← hw3]; exact below_box _ _
      have hF3 : FBox w3 w2.heap.size (.slice ia f.ins.length ic) (.slice ja f.jobs.length jc) (.slice oa f.outs.length oc) := by rw [← hw3]; exact FBox.new _ _ _ _ _
      have hb13 : Below w1.heap.size w1 w3 := bel_then hb2 hb23
      have HFL3 := Hid.mk (flowO_below HFO.out hb23)
      have HCK := Hid.mk (check_any f _ _ _ w3 (Fw.FlowRd.of HFL3.out) hfok (cell_below (cell_below HE.out.2 HB1.out) hb13))
      have HB13 := Hid.mk hb13
      have HF3 := Hid.mk hF3
      have g1 := hF3.1
      have g2 := hF3.2.1
      have g3 := hF3.2.2
      have HFOK := Hid.mk hfok
      generalize hni : f.ins.length = ni at *
      generalize hnj : f.jobs.length = nj at *
      generalize hno : f.outs.length = no at *
      clear hfl hpf hb2 hb23 hF3 hb13 hfok
      go_wp2_with (first | (go_at_call 7; fail))
      refine HCK.out.mono ?_
      rintro e4 w4 ⟨hb4, ⟨o, m, A, b, hok, rfl, -, -, -, -⟩ | ⟨hno, ev, n, rfl, hn0, hat, -⟩⟩
      · have HOK := Hid.mk hok
        have hFd := (HF3.out.below hb4).below ((Below.refl _ w4).drew)
        have q1 := hFd.1
        have q2 := hFd.2.1
        have q3 := hFd.2.2
        have hXd : Fw.Box w4.drew w.heap.size [.slice none 0 0, .slice none 0 0, .slice none 0 0] := ((HX1.out.below HB13.out).below hb4).block rfl
        have c0 := hXd.cell 0 (v := .slice none 0 0) rfl
        have c1 := hXd.cell 1 (v := .slice none 0 0) rfl
        have c2 := hXd.cell 2 (v := .slice none 0 0) rfl
        have f0 := hXd.fz 0
        have f1 := hXd.fz 1
        have f2 := hXd.fz 2
        have hX4 : Fw.Box w4 w.heap.size [.slice none 0 0, .slice none 0 0, .slice none 0 0] := hXd.block rfl
        have d0 := hX4.cell 0 (v := .slice none 0 0) rfl
        have d1 := hX4.cell 1 (v := .slice none 0 0) rfl
        have d2 := hX4.cell 2 (v := .slice none 0 0) rfl
        have e0 := hX4.fz 0
        have e1 := hX4.fz 1
        have e2 := hX4.fz 2
        have HXd := Hid.mk hXd
        have HB4 : Hid (Below w.heap.size w w4.drew) := Hid.mk (HB1.out.trans ((bel_then HB13.out hb4).drew.mono HB1.out.size))
        have HFL4 := Hid.mk ((flowO_below HFL3.out hb4).imp (w' := w4.drew) (fun e z n v xs ho => owns_below ho ((Below.refl _ w4).drew)))
        clear hok hb4 hFd hXd
        go_wp2_with fail
        go_region_law (fail)
        all_goals go_wp2
        all_goals
          have X2 := ((HXd.out.set 0 (.slice ia ni ic)).set 1 (.slice ja nj jc)).set 2 (.slice oa no oc)
          have z0 := X2.cell 0 (v := .slice ia ni ic) rfl
          have z1 := X2.cell 1 (v := .slice ja nj jc) rfl
          have z2 := X2.cell 2 (v := .slice oa no oc) rfl
          have y0 : (((w4.setCell ⟨w.heap.size, 0, none⟩ (.slice ia ni ic)).setCell ⟨w.heap.size, 1, none⟩ (.slice ja nj jc)).setCell ⟨w.heap.size, 2, none⟩ (.slice oa no oc)).drew.cell? ⟨w.heap.size, 0, none⟩ = some (.slice ia ni ic) := z0
          have y1 : (((w4.setCell ⟨w.heap.size, 0, none⟩ (.slice ia ni ic)).setCell ⟨w.heap.size, 1, none⟩ (.slice ja nj jc)).setCell ⟨w.heap.size, 2, none⟩ (.slice oa no oc)).drew.cell? ⟨w.heap.size, 1, none⟩ = some (.slice ja nj jc) := z1
          have y2 : (((w4.setCell ⟨w.heap.size, 0, none⟩ (.slice ia ni ic)).setCell ⟨w.heap.size, 1, none⟩ (.slice ja nj jc)).setCell ⟨w.heap.size, 2, none⟩ (.slice oa no oc)).drew.cell? ⟨w.heap.size, 2, none⟩ = some (.slice oa no oc) := z2
          have FL5 := ((HFL4.out.imp (fun e z n v xs h => ownsRow_setCell_below h (a := ⟨w.heap.size, 0, none⟩) (by show w.heap.size < _; have := HS1.out; omega) (.slice ia ni ic))).imp (fun e z n v xs h => ownsRow_setCell_below h (a := ⟨w.heap.size, 1, none⟩) (by show w.heap.size < _; have := HS1.out; omega) (.slice ja nj jc))).imp (fun e z n v xs h => ownsRow_setCell_below h (a := ⟨w.heap.size, 2, none⟩) (by show w.heap.size < _; have := HS1.out; omega) (.slice oa no oc))
          have B2 := ((HB4.out.setCell (p := ⟨w.heap.size, 0, none⟩) (Nat.le_refl _) (.slice ia ni ic)).setCell (p := ⟨w.heap.size, 1, none⟩) (Nat.le_refl _) (.slice ja nj jc)).setCell (p := ⟨w.heap.size, 2, none⟩) (Nat.le_refl _) (.slice oa no oc)
          refine bodyPost_ret (v := .tuple #[.agg #[.slice ia ni ic, .slice ja nj jc, .slice oa no oc], .bool true]) (by simp [results, Tryz.results6, go_sem, z0, z1, z2, y0, y1, y2]) rfl ?_
          exact ⟨B2, Or.inl ⟨f, o, m, _, _, _, HPF.out, HOK.out, rfl, Fw.FlowRd.of FL5, HFOK.out⟩⟩
      · have hFd := (HF3.out.below hb4).below ((Below.refl _ w4).drew)
        have q1 := hFd.1
        have q2 := hFd.2.1
        have q3 := hFd.2.2
        have hXd : Fw.Box w4.drew w.heap.size [.slice none 0 0, .slice none 0 0, .slice none 0 0] := ((HX1.out.below HB13.out).below hb4).block rfl
        have c0 := hXd.cell 0 (v := .slice none 0 0) rfl
        have c1 := hXd.cell 1 (v := .slice none 0 0) rfl
        have c2 := hXd.cell 2 (v := .slice none 0 0) rfl
        have f0 := hXd.fz 0
        have f1 := hXd.fz 1
        have f2 := hXd.fz 2
        have hX4 : Fw.Box w4 w.heap.size [.slice none 0 0, .slice none 0 0, .slice none 0 0] := hXd.block rfl
        have d0 := hX4.cell 0 (v := .slice none 0 0) rfl
        have d1 := hX4.cell 1 (v := .slice none 0 0) rfl
        have d2 := hX4.cell 2 (v := .slice none 0 0) rfl
        have e0 := hX4.fz 0
        have e1 := hX4.fz 1
        have e2 := hX4.fz 2
        have HXd := Hid.mk hXd
        have HB4 : Hid (Below w.heap.size w w4.drew) := Hid.mk (HB1.out.trans ((bel_then HB13.out hb4).drew.mono HB1.out.size))
        obtain ⟨p, pl, rfl, -, -⟩ := hat
        clear hno hb4 hFd hXd
        go_wp2_with fail
        go_region_law (fail)
        all_goals go_wp2
        all_goals
          have X2 := ((HXd.out.set 0 (.slice ia ni ic)).set 1 (.slice ja nj jc)).set 2 (.slice oa no oc)
          have z0 := X2.cell 0 (v := .slice ia ni ic) rfl
          have z1 := X2.cell 1 (v := .slice ja nj jc) rfl
          have z2 := X2.cell 2 (v := .slice oa no oc) rfl
          have y0 : (((w4.setCell ⟨w.heap.size, 0, none⟩ (.slice ia ni ic)).setCell ⟨w.heap.size, 1, none⟩ (.slice ja nj jc)).setCell ⟨w.heap.size, 2, none⟩ (.slice oa no oc)).drew.cell? ⟨w.heap.size, 0, none⟩ = some (.slice ia ni ic) := z0
          have y1 : (((w4.setCell ⟨w.heap.size, 0, none⟩ (.slice ia ni ic)).setCell ⟨w.heap.size, 1, none⟩ (.slice ja nj jc)).setCell ⟨w.heap.size, 2, none⟩ (.slice oa no oc)).drew.cell? ⟨w.heap.size, 1, none⟩ = some (.slice ja nj jc) := z1
          have y2 : (((w4.setCell ⟨w.heap.size, 0, none⟩ (.slice ia ni ic)).setCell ⟨w.heap.size, 1, none⟩ (.slice ja nj jc)).setCell ⟨w.heap.size, 2, none⟩ (.slice oa no oc)).drew.cell? ⟨w.heap.size, 2, none⟩ = some (.slice oa no oc) := z2
          have B2 := ((HB4.out.setCell (p := ⟨w.heap.size, 0, none⟩) (Nat.le_refl _) (.slice ia ni ic)).setCell (p := ⟨w.heap.size, 1, none⟩) (Nat.le_refl _) (.slice ja nj jc)).setCell (p := ⟨w.heap.size, 2, none⟩) (Nat.le_refl _) (.slice oa no oc)
          refine bodyPost_ret (v := .tuple #[.agg #[.slice ia ni ic, .slice ja nj jc, .slice oa no oc], .bool false]) (by simp [results, Tryz.results6, go_sem, z0, z1, z2, y0, y1, y2]) rfl ?_
          exact ⟨B2, Or.inr ⟨_, _, _, _, _, _, _, _, _, rfl⟩⟩
    · obtain ⟨w3, hw3⟩ : ∃ x, w2.alloc (.cells #[.slice none 0 0, .slice none 0 0, .slice none 0 0] 27) = x := ⟨_, rfl⟩
      have hb23 : Below w2.heap.size w2 w3 := by rw [← hw3]; exact below_box _ _
      have hY3 : Fw.Box w3 w2.heap.size [.slice none 0 0, .slice none 0 0, .slice none 0 0] := by rw [← hw3]; exact Fw.Box.new w2 _ _ _ rfl
      have y0 := hY3.cell 0 (v := .slice none 0 0) rfl
      have y1 := hY3.cell 1 (v := .slice none 0 0) rfl
      have y2 := hY3.cell 2 (v := .slice none 0 0) rfl
      have yf0 := hY3.fz 0
      have yf1 := hY3.fz 1
      have yf2 := hY3.fz 2
      obtain ⟨w4, hw4⟩ : ∃ x, ((w3.setCell ⟨w2.heap.size, 0, none⟩ (.slice none 0 0)).setCell ⟨w2.heap.size, 1, none⟩ (.slice none 0 0)).setCell ⟨w2.heap.size, 2, none⟩ (.slice none 0 0) = x := ⟨_, rfl⟩
      have hl2 : w.heap.size ≠ w2.heap.size := by have := HX1.out.below hb2 |>.lt; omega
      have hXd : Fw.Box w4 w.heap.size [.slice none 0 0, .slice none 0 0, .slice none 0 0] := by
        rw [← hw4]
        exact ((((HX1.out.below hb2).below hb23).other _ _ hl2).other _ _ hl2).other _ _ hl2
      have c0 := hXd.cell 0 (v := .slice none 0 0) rfl
      have c1 := hXd.cell 1 (v := .slice none 0 0) rfl
      have c2 := hXd.cell 2 (v := .slice none 0 0) rfl
      have f0 := hXd.fz 0
      have f1 := hXd.fz 1
      have f2 := hXd.fz 2
      have HXd := Hid.mk hXd
      have HB4 : Hid (Below w.heap.size w w4) := Hid.mk (by
        have h3 := HB1.out.trans ((bel_then hb2 hb23).mono HB1.out.size)
        have hle : w.heap.size ≤ w2.heap.size := by have := (HX1.out.below hb2).lt; omega
        rw [← hw4]
        exact ((h3.setCell (p := ⟨w2.heap.size, 0, none⟩) hle _).setCell (p := ⟨w2.heap.size, 1, none⟩) hle _).setCell (p := ⟨w2.heap.size, 2, none⟩) hle _)
      clear hb2 hb23 hXd hpf hY3
      go_wp2
      have X2 := ((HXd.out.set 0 (.slice none 0 0)).set 1 (.slice none 0 0)).set 2 (.slice none 0 0)
      have z0 := X2.cell 0 (v := .slice none 0 0) rfl
      have z1 := X2.cell 1 (v := .slice none 0 0) rfl
      have z2 := X2.cell 2 (v := .slice none 0 0) rfl
      have B2 := ((HB4.out.setCell (p := ⟨w.heap.size, 0, none⟩) (Nat.le_refl _) (.slice none 0 0)).setCell (p := ⟨w.heap.size, 1, none⟩) (Nat.le_refl _) (.slice none 0 0)).setCell (p := ⟨w.heap.size, 2, none⟩) (Nat.le_refl _) (.slice none 0 0)
      refine bodyPost_ret (v := .tuple #[.agg #[.slice none 0 0, .slice none 0 0, .slice none 0 0], .bool false]) (by simp [results, Tryz.results6, go_sem, z0, z1, z2]) rfl ?_
      exact ⟨B2, Or.inr ⟨_, _, _, _, _, _, _, _, _, rfl⟩⟩
end Go.Proofs.YtoncleppenggaaaGreatDoor.Pl

namespace Go.Proofs
open Go.Shelf
open Go.RowKit
open Go.Sort
def Tryz.lays107_ren : Go.Shelf.Ren := ⟨fun | 107 => 14 | 108 => 26 | n => n, fun | 28 => 49 | 3 => 3 | 4 => 4 | 0 => 0 | n => n, fun | n => n⟩
theorem Tryz.lays107 : Go.Proofs.Lays.n107 Tryz.prog Tryz.lays107_ren := {
  mixed := by kernel_rfl
  f107 := Tryz.func14.trans (congrArg some (by kernel_rfl))
  f108 := Tryz.func26.trans (congrArg some (by kernel_rfl))
  t0 := Tryz.underlying0
  a0 := Tryz.isAgg0
  z0 := Tryz.sizeOf0
  v0 := Tryz.zeroValue0
  t3 := Tryz.underlying3
  a3 := Tryz.isAgg3
  z3 := Tryz.sizeOf3
  v3 := Tryz.zeroValue3
  t4 := Tryz.underlying4
  a4 := Tryz.isAgg4
  z4 := Tryz.sizeOf4
  v4 := Tryz.zeroValue4
  t28 := Tryz.underlying49
  a28 := Tryz.isAgg49
  z28 := Tryz.sizeOf49
  v28 := Tryz.zeroValue49 }
theorem Tryz.slices_Contains_int (b off n c : Nat) (zs : List Int) (x : Int) (w : World) (hz : n ≤ zs.length) (hbig : n ≤ 9223372036854775807) (hc : ∀ j, j < zs.length → w.cell? ⟨b, off + j, none⟩ = some (.int .i64 (zs.getD j 0))) :
    Calls Tryz.prog 14 #[.slice (some ⟨b, off, none⟩) n c, .int .i64 x] w fun e w' => e = .returned (.bool ((zs.take n).contains x)) ∧ w' = w := Any.slices_Contains_int Tryz.lays107 b off n c zs x w hz hbig hc
theorem Tryz.slices_Contains_int_empty (a : Option Addr) (c : Nat) (x : Int) (w : World) :
    Calls Tryz.prog 14 #[.slice a 0 c, .int .i64 x] w fun e w' => e = .returned (.bool false) ∧ w' = w := Any.slices_Contains_int_empty Tryz.lays107 a c x w
def Tryz.lays111_ren : Go.Shelf.Ren := ⟨fun | 111 => 18 | n => n, fun | 28 => 49 | 3 => 3 | 4 => 4 | 0 => 0 | n => n, fun | n => n⟩
theorem Tryz.lays111 : Go.Proofs.Lays.n111 Tryz.prog Tryz.lays111_ren := {
  mixed := by kernel_rfl
  f111 := Tryz.func18.trans (congrArg some (by kernel_rfl))
  t0 := Tryz.underlying0
  a0 := Tryz.isAgg0
  z0 := Tryz.sizeOf0
  v0 := Tryz.zeroValue0
  t3 := Tryz.underlying3
  a3 := Tryz.isAgg3
  z3 := Tryz.sizeOf3
  v3 := Tryz.zeroValue3
  t4 := Tryz.underlying4
  a4 := Tryz.isAgg4
  z4 := Tryz.sizeOf4
  v4 := Tryz.zeroValue4
  t28 := Tryz.underlying49
  a28 := Tryz.isAgg49
  z28 := Tryz.sizeOf49
  v28 := Tryz.zeroValue49 }
theorem Tryz.slices_Equal_int (b1 o1 n c b2 o2 m d : Nat) (xs ys : List Int) (w : World) (hx : n ≤ xs.length) (hy : m ≤ ys.length) (hbig : n ≤ 9223372036854775807) (hbig2 : m ≤ 9223372036854775807) (hc1 : ∀ j, j < xs.length → w.cell? ⟨b1, o1 + j, none⟩ = some (.int .i64 (xs.getD j 0))) (hc2 : ∀ j, j < ys.length → w.cell? ⟨b2, o2 + j, none⟩ = some (.int .i64 (ys.getD j 0))) :
    Calls Tryz.prog 18 #[.slice (some ⟨b1, o1, none⟩) n c, .slice (some ⟨b2, o2, none⟩) m d] w fun e w' => e = .returned (.bool (xs.take n == ys.take m)) ∧ ∃ q, w' = w.drewN q := Any.slices_Equal_int Tryz.lays111 b1 o1 n c b2 o2 m d xs ys w hx hy hbig hbig2 hc1 hc2
end Go.Proofs

namespace Go.Proofs.YtoncleppenggaaaGreatDoor.Pl
open Go.RowKit Go.Maps
open Fw (By FJob Flw ba strV encL zeroJ)

/-- The fact's two texts, and flows. -/
def ps1 : By := [105, 110, 32, 112, 58, 32, 105, 100, 32, 105, 110, 116, 59, 32, 106, 111, 98, 32, 97, 32, 61, 32, 100, 105, 115, 116, 105, 110, 99, 116, 32, 98, 59, 32, 106, 111, 98, 32, 98, 32, 61, 32, 100, 105, 115, 116, 105, 110, 99, 116, 32, 112, 59, 32, 111, 117, 116, 32, 114, 32, 61, 32, 97, 59]
def ps2 : By := [106, 111, 98, 32, 97, 32, 61, 32, 100, 105, 115, 116, 105, 110, 99, 116, 32, 98, 59, 32, 106, 111, 98, 32, 98, 32, 61, 32, 100, 105, 115, 116, 105, 110, 99, 116, 32, 97, 59]
def pf1 : Flw := ⟨[⟨0, [112], [([105, 100], 1)]⟩], [⟨14, 6, [[97]], [[98]], [], [], Fw.agg0, Fw.agg0, 0⟩, ⟨34, 6, [[98]], [[112]], [], [], Fw.agg0, Fw.agg0, 0⟩], [⟨54, [114], [97]⟩]⟩
def pf2 : Flw := ⟨[], [⟨0, 6, [[97]], [[98]], [], [], Fw.agg0, Fw.agg0, 0⟩, ⟨20, 6, [[98]], [[97]], [], [], Fw.agg0, Fw.agg0, 0⟩], []⟩
set_option maxRecDepth 100000 in
theorem parse1 : Fw.parseF ps1 = .ok pf1 := by kernel_rfl
set_option maxRecDepth 100000 in
theorem parse2 : Fw.parseF ps2 = .ok pf2 := by kernel_rfl
theorem ord1 : ordF pf1 = some [1, 0] := by kernel_rfl
theorem ord2 : ordF pf2 = none := by kernel_rfl
theorem fine2 : Fine pf2 := by
  refine ⟨by simp [pf2], by simp [madeL, pf2], ?_, by simp [pf2], by simp [pf2]⟩
  intro j hj n hn
  simp [pf2] at hj
  rcases hj with rfl | rfl <;> simp at hn <;> subst hn <;> simp [madeL, pf2]
set_option maxRecDepth 100000 in
set_option maxHeartbeats 1600000 in
theorem planned_any (w : World) (hE : Fw.FEnv w) (hgl : GErr w) :
    Calls Tryz.prog 5 #[] w fun e w' => e = .returned (.bool true) ∧ Below w.heap.size w w' := by
  have HP := Hid.mk (Fw.parse_any ps1 w (by decide) hE)
  have hsv : (ba ps1) = ⟨#[105, 110, 32, 112, 58, 32, 105, 100, 32, 105, 110, 116, 59, 32, 106, 111, 98, 32, 97, 32, 61, 32, 100, 105, 115, 116, 105, 110, 99, 116, 32, 98, 59, 32, 106, 111, 98, 32, 98, 32, 61, 32, 100, 105, 115, 116, 105, 110, 99, 116, 32, 112, 59, 32, 111, 117, 116, 32, 114, 32, 61, 32, 97, 59]⟩ := rfl
  have hsv2 : (ba ps2) = ⟨#[106, 111, 98, 32, 97, 32, 61, 32, 100, 105, 115, 116, 105, 110, 99, 116, 32, 98, 59, 32, 106, 111, 98, 32, 98, 32, 61, 32, 100, 105, 115, 116, 105, 110, 99, 116, 32, 97, 59]⟩ := rfl
  have HE := Hid.mk (And.intro hE hgl)
  rw [hsv] at HP
  clear hE hgl
  go_enter Tryz.func5, Tryz.ntmps5
  go_wp2_with (first | (go_at_call 17; fail))
  refine HP.out.mono ?_
  rintro e1 w1 ⟨⟨f, vi, vj, vo, hpf, rfl, hfl⟩ | ⟨er, b, hpf, rfl, -⟩, hb1⟩
  · rw [parse1] at hpf
    obtain rfl : pf1 = f := by injection hpf
    have HFO := Hid.mk hfl
    obtain ⟨ia, ic, rfl⟩ := row_slice (Fw.FlowRd.of hfl).ins
    obtain ⟨ja, jc, rfl⟩ := row_slice (Fw.FlowRd.of hfl).jobs
    obtain ⟨oa, oc, rfl⟩ := row_slice (Fw.FlowRd.of hfl).outs
    have hfok := Fw.parse_ok (l := ps1) (by decide) parse1
    obtain ⟨w2, hw2⟩ : ∃ x, w1.alloc (.cells #[.slice ia pf1.ins.length ic, .slice ja pf1.jobs.length jc, .slice oa pf1.outs.length oc] 27) = x := ⟨_, rfl⟩
    have hb12 : Below w1.heap.size w1 w2 := by rw [← hw2]; exact below_box _ _
    have hX2 : Fw.Box w2 w1.heap.size [.slice ia pf1.ins.length ic, .slice ja pf1.jobs.length jc, .slice oa pf1.outs.length oc] := by rw [← hw2]; exact Fw.Box.new w1 _ _ _ rfl
    have g1 := hX2.cell 0 (v := .slice ia pf1.ins.length ic) rfl
    have g2 := hX2.cell 1 (v := .slice ja pf1.jobs.length jc) rfl
    have g3 := hX2.cell 2 (v := .slice oa pf1.outs.length oc) rfl
    have HX2 := Hid.mk hX2
    have HB2 := Hid.mk (bel_then hb1 hb12)
    have HOR := Hid.mk (order_any pf1 _ _ _ w2 (Fw.FlowRd.of (flowO_below HFO.out hb12)) hfok)
    have HL1 : Hid (w.heap.size ≤ w1.heap.size) := Hid.mk hb1.size
    generalize pf1.ins.length = n1 at *
    generalize pf1.jobs.length = n2 at *
    generalize pf1.outs.length = n3 at *
    clear hfl hpf hb1 hb12 hX2 hfok HFO
    go_wp2_with (first | (go_at_call 13; fail))
    refine HOR.out.mono ?_
    rintro e3 w3 ⟨hb3, ⟨hno, -⟩ | ⟨o, tv, hor, rfl, htv⟩⟩
    · rw [ord1] at hno; cases hno
    · rw [ord1] at hor
      obtain rfl : [1, 0] = o := Option.some.inj hor
      obtain ⟨tg, tc, rfl, htB, htl, hti⟩ := ints_of htv (by decide)
      have hEQ : ∀ V, Below w3.heap.size w3 V → Calls Tryz.prog 18 #[.slice (some ⟨tg, 0, none⟩) 2 tc, .slice (some ⟨w3.heap.size, 0, none⟩) 2 2] (w3.alloc (.cells #[.int .i64 1, .int .i64 0] 3)) fun e w' => e = .returned (.bool true) ∧ ∃ q, w' = (w3.alloc (.cells #[.int .i64 1, .int .i64 0] 3)).drewN q := fun V hV => by
        have := Tryz.slices_Equal_int tg 0 2 tc w3.heap.size 0 2 2 [1, 0] [1, 0] (w3.alloc (.cells #[.int .i64 1, .int .i64 0] 3)) (by decide) (by decide) (by decide) (by decide) (fun j hj => by
          rw [World.cell?_alloc_lt _ _ ⟨tg, 0 + j, none⟩ htl, hti j (by simpa using hj)]
          rcases (show j = 0 ∨ j = 1 by simp at hj; omega) with rfl | rfl <;> rfl) (fun j hj => by
          rw [World.cell?_alloc_at _ _ _ _ rfl]
          rcases (show j = 0 ∨ j = 1 by simp at hj; omega) with rfl | rfl <;> rfl)
        exact this
      have HEQ := Hid.mk (hEQ w3 (Below.refl _ _))
      have HB3 := Hid.mk (bel_then HB2.out hb3)
      have HX3 := Hid.mk (HX2.out.below hb3)
      clear hEQ hti htv hor hb3 htl
      go_wp2_with (first | (go_at_call 18; fail))
      refine HEQ.out.mono ?_
      rintro e4 w4 ⟨rfl, qq, hw4⟩
      have hb34 : Below w3.heap.size w3 w4 := by rw [hw4]; exact below_drewN (below_box _ _) _
      have HB4 := Hid.mk (bel_then HB3.out hb34)
      have HX4 := Hid.mk (HX3.out.below hb34)
      have HP2 := Hid.mk (Fw.parse_any ps2 w4 (by decide) (fenv_below HE.out.1 HB4.out))
      rw [hsv2] at HP2
      clear hw4 hb34
      go_wp2_with (first | (go_at_call 17; fail))
      refine HP2.out.mono ?_
      rintro e5 w5 ⟨⟨f, vi, vj, vo, hpf, rfl, hfl⟩ | ⟨er, b, hpf, rfl, -⟩, hb5⟩
      · rw [parse2] at hpf
        obtain rfl : pf2 = f := by injection hpf
        have HFO := Hid.mk hfl
        obtain ⟨ia2, ic2, rfl⟩ := row_slice (Fw.FlowRd.of hfl).ins
        obtain ⟨ja2, jc2, rfl⟩ := row_slice (Fw.FlowRd.of hfl).jobs
        obtain ⟨oa2, oc2, rfl⟩ := row_slice (Fw.FlowRd.of hfl).outs
        have hX5 := HX4.out.below hb5
        have k0 := hX5.cell 0 (v := .slice ia n1 ic) rfl
        have k1 := hX5.cell 1 (v := .slice ja n2 jc) rfl
        have k2 := hX5.cell 2 (v := .slice oa n3 oc) rfl
        have f0 := hX5.fz 0
        have f1 := hX5.fz 1
        have f2 := hX5.fz 2
        obtain ⟨w6, hw6⟩ : ∃ x, ((w5.setCell ⟨w1.heap.size, 0, none⟩ (.slice ia2 pf2.ins.length ic2)).setCell ⟨w1.heap.size, 1, none⟩ (.slice ja2 pf2.jobs.length jc2)).setCell ⟨w1.heap.size, 2, none⟩ (.slice oa2 pf2.outs.length oc2) = x := ⟨_, rfl⟩
        have hX6 : Fw.Box w6 w1.heap.size [.slice ia2 pf2.ins.length ic2, .slice ja2 pf2.jobs.length jc2, .slice oa2 pf2.outs.length oc2] := by rw [← hw6]; exact ((hX5.set 0 _).set 1 _).set 2 _
        have hlt4 : w1.heap.size < w4.heap.size := HX4.out.lt
        have hFL6 : Fw.FlowO w6 w4.heap.size pf2.ins (.slice ia2 pf2.ins.length ic2) pf2.jobs (.slice ja2 pf2.jobs.length jc2) pf2.outs (.slice oa2 pf2.outs.length oc2) := by
          rw [← hw6]
          exact ((HFO.out.imp (fun e z n v xs h => ownsRow_setCell_below h (a := ⟨w1.heap.size, 0, none⟩) hlt4 _)).imp (fun e z n v xs h => ownsRow_setCell_below h (a := ⟨w1.heap.size, 1, none⟩) hlt4 _)).imp (fun e z n v xs h => ownsRow_setCell_below h (a := ⟨w1.heap.size, 2, none⟩) hlt4 _)
        have hb6 : Below w.heap.size w w6 := by
          rw [← hw6]
          exact (((bel_then HB4.out hb5).setCell (p := ⟨w1.heap.size, 0, none⟩) HL1.out _).setCell (p := ⟨w1.heap.size, 1, none⟩) HL1.out _).setCell (p := ⟨w1.heap.size, 2, none⟩) HL1.out _
        have HB6 := Hid.mk hb6
        have HCK := Hid.mk (check_any pf2 _ _ _ w6 (Fw.FlowRd.of hFL6) (Fw.parse_ok (l := ps2) (by decide) parse2) (cell_below HE.out.2 hb6))
        have g4 := hX6.cell 0 (v := .slice ia2 pf2.ins.length ic2) rfl
        have g5 := hX6.cell 1 (v := .slice ja2 pf2.jobs.length jc2) rfl
        have g6 := hX6.cell 2 (v := .slice oa2 pf2.outs.length oc2) rfl
        generalize pf2.ins.length = m1 at *
        generalize pf2.jobs.length = m2 at *
        generalize pf2.outs.length = m3 at *
        clear hfl hpf hb5 hX5 hX6 hFL6 hb6 HFO
        go_wp2_with (first | (go_at_call 7; fail))
        refine HCK.out.mono ?_
        rintro e7 w7 ⟨hb7, ⟨o, m, A, b, hok, -⟩ | ⟨-, ev, n, rfl, hn0, hat, h11⟩⟩
        · have := hok.2.1
          rw [ord2] at this
          cases this
        · obtain rfl : n = 11 := h11 fine2 ord2
          obtain ⟨p, pl, rfl, hp0, -⟩ := hat
          have HTL := Hid.mk (Dk.tellA_any 11 p w7 hp0 (cell_below HE.out.2 (bel_then HB6.out hb7)))
          have HB7 := Hid.mk (bel_then HB6.out hb7)
          clear hb7 hn0 hp0 h11
          go_wp2_with (first | (go_at_call 19; refine HTL.out.mono ?_; rintro e8 w8 ⟨rfl, hb8⟩; have HB8 := Hid.mk (bel_then HB7.out hb8); clear hb8))
          go_ret
          exact ⟨rfl, HB8.out⟩
      · rw [parse2] at hpf; cases hpf
  · rw [parse1] at hpf; cases hpf
end Go.Proofs.YtoncleppenggaaaGreatDoor.Pl

