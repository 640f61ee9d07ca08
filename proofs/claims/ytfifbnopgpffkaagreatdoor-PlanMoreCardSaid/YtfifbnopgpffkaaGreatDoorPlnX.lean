import Derived.Test.YtfifbnopgpffkaaGreatDoorPlnO
import Derived.Test.YtfifbnopgpffkaaGreatDoorTelH
import Derived.Shelf.Slices.Turned
import Derived.Shelf.Slices.Equal
import Derived.Ground.Names2Prog
import Derived.Shelf.Slices.Delete
import Derived.Shelf.Slices.Cells
import Derived.Shelf.Slices.Empties
import Derived.Shelf.Slices.Empties2
import Derived.Test.YtfifbnopgpffkaaGreatDoorProg
import Derived.Shelf.SlMaps.Equal
import Derived.Deep.RegionLaw
set_option linter.unusedSimpArgs false
set_option linter.unusedVariables false
namespace Go.Proofs.YtfifbnopgpffkaaGreatDoor.Pl
open Go.RowKit Go.Maps
open Fw (By FJob Flw ba strV encL zeroJ)

/-- A flow of which nothing is found. -/
def CheckOK (f : Flw) (o : List Nat) (m : CM) : Prop := Fine f ∧ ordF f = some o ∧ colsO colsE colsC f o = some m
/-- What Check comes to. -/
def CheckR (f : Flw) (w : World) (e : Ending) (w' : World) : Prop := Below w.heap.size w w' ∧
  ((∃ o m A b, CheckOK f o m ∧ e = .returned (.tuple #[.map (some b), .nilIface]) ∧ w.heap.size ≤ b ∧ MapC w' b A ∧ Holds2 w' A m ∧ ∀ c ∈ m, CsOK c.2) ∨
   ((¬ ∃ o m, CheckOK f o m) ∧ ∃ ev n, e = .returned (.tuple #[.map none, ev]) ∧ n ≠ 0 ∧ AtV w' ev n ∧ (Fine f → ordF f = none → n = 11)))
abbrev GErr (w : World) : Prop := w.cell? ⟨0, 0, none⟩ = some (.iface 147 (.agg #[.pointer (some ⟨10, 32, none⟩)]))
set_option maxRecDepth 100000 in
set_option maxHeartbeats 1600000 in
theorem check_any (f : Flw) (vi vj vo : Value) (w : World) (h : Fw.FlowRd w f vi vj vo) (hf : Fw.FlwOK f) (hgl : GErr w) :
    Calls Tryz.prog 7 #[.agg #[vi, vj, vo]] w fun e w' => CheckR f w e w' := by
  obtain ⟨ia, ic, rfl⟩ := row_slice h.ins
  obtain ⟨ja, jc, rfl⟩ := row_slice h.jobs
  obtain ⟨oa, oc, rfl⟩ := row_slice h.outs
  generalize f.ins.length = I at *
  generalize f.jobs.length = J at *
  generalize f.outs.length = O at *
  obtain ⟨w1, hw1⟩ : ∃ x, w.alloc (.cells #[.slice ia I ic, .slice ja J jc, .slice oa O oc] 27) = x := ⟨_, rfl⟩
  have hB1 : Below w.heap.size w w1 := by rw [← hw1]; exact below_box _ _
  have hF1 : FBox w1 w.heap.size (.slice ia I ic) (.slice ja J jc) (.slice oa O oc) := by rw [← hw1]; exact FBox.new _ _ _ _ _
  have HB1 := Hid.mk hB1
  have HF1 := Hid.mk hF1
  have HH := Hid.mk (And.intro (h.below hB1) (And.intro hf (cell_below hgl hB1)))
  have HW := Hid.mk (wrong_any f _ _ _ w1 (h.below hB1) hf)
  have g1 := hF1.1
  have g2 := hF1.2.1
  have g3 := hF1.2.2
  clear h hf hgl hB1 hF1
  go_enter Tryz.func7, Tryz.ntmps7
  go_wp2_with (first | (go_at_call 20; fail))
  refine HW.out.mono ?_
  rintro e2 w2 ⟨hb2, ⟨hok, rfl⟩ | ⟨hno, ev, n, rfl, hn0, hat, -⟩⟩
  · have HFI := Hid.mk hok
    have HB2 := Hid.mk hb2
    have HOR := Hid.mk (order_any f _ _ _ w2 (HH.out.1.below hb2) HH.out.2.1)
    have k0 := HF1.out.below hb2
    have k1 := k0.1
    have k2 := k0.2.1
    have k3 := k0.2.2
    clear hok hb2 k0
    go_wp2_with (first | (go_at_call 13; fail))
    refine HOR.out.mono ?_
    rintro e3 w3 ⟨hb3, ⟨hno, ev, rfl, hat⟩ | ⟨o, tv, hor, rfl, htv⟩⟩
    · have HNO : Hid ((¬ ∃ o m, CheckOK f o m) ∧ ordF f = none) := Hid.mk ⟨fun ⟨o, m, hc⟩ => (by rw [hc.2.1] at hno; cases hno), hno⟩
      have HA := Hid.mk hat
      have HB3 := Hid.mk (bel_then HB2.out hb3)
      obtain ⟨p, pl, rfl, -, -⟩ := hat
      clear hno hb3
      go_wp2
      refine bodyPost_ret (v := .tuple #[.map none, .iface 82 (.pointer (some ⟨p, 0, none⟩))]) (by simp [results, Tryz.results7, go_sem]) rfl ?_
      exact ⟨HB1.out.trans (HB3.out.mono HB1.out.size), Or.inr ⟨HNO.out.1, _, 11, rfl, by decide, HA.out, fun _ _ => rfl⟩⟩
    · have HG := Hid.mk (And.intro (ordF_good hor) hor)
      have hb13 := bel_then HB2.out hb3
      have HB3 := Hid.mk hb13
      have HCL := Hid.mk (columns_any f o _ _ _ tv w3 (HH.out.1.below hb13) HH.out.2.1 HFI.out (ordF_good hor) (IntsV.of htv) (cell_below HH.out.2.2 hb13))
      have k0 := HF1.out.below hb13
      have k4 := k0.1
      have k5 := k0.2.1
      have k6 := k0.2.2
      obtain ⟨ta, tc, rfl⟩ := own_slice htv
      clear hor hb3 hb13 htv k0
      go_wp2_with (first | (go_at_call 21; fail))
      refine HCL.out.mono ?_
      rintro e4 w4 ⟨hb4, ⟨hno, ev, n, rfl, hn0, hat⟩ | ⟨m, A, b, hm, rfl, hbb, hMC, hH2, hok⟩⟩
      · have HNO : Hid ((¬ ∃ o m, CheckOK f o m) ∧ n ≠ 0) := Hid.mk ⟨fun ⟨o', m, hc⟩ => (by
          obtain rfl : o = o' := Option.some.inj (HG.out.2.symm.trans hc.2.1)
          rw [hc.2.2] at hno; cases hno), hn0⟩
        have HA := Hid.mk hat
        have HB4 := Hid.mk (bel_then HB3.out hb4)
        obtain ⟨p, pl, rfl, -, -⟩ := hat
        clear hno hb4 hn0
        go_wp2
        refine bodyPost_ret (v := .tuple #[.map none, .iface 82 (.pointer (some ⟨p, 0, none⟩))]) (by simp [results, Tryz.results7, go_sem]) rfl ?_
        exact ⟨HB1.out.trans (HB4.out.mono HB1.out.size), Or.inr ⟨HNO.out.1, _, n, rfl, HNO.out.2, HA.out, fun _ q => by rw [HG.out.2] at q; cases q⟩⟩
      · have HOK : Hid (CheckOK f o m ∧ w3.heap.size ≤ b ∧ MapC w4 b A ∧ Holds2 w4 A m ∧ ∀ c ∈ m, CsOK c.2) := Hid.mk ⟨⟨HFI.out, HG.out.2, hm⟩, hbb, hMC, hH2, hok⟩
        have HB4 := Hid.mk (bel_then HB3.out hb4)
        clear hm hbb hMC hH2 hok hb4
        go_wp2
        refine bodyPost_ret (v := .tuple #[.map (some b), .nilIface]) (by simp [results, Tryz.results7, go_sem]) rfl ?_
        exact ⟨HB1.out.trans (HB4.out.mono HB1.out.size), Or.inl ⟨o, m, A, b, HOK.out.1, rfl, Nat.le_trans (Nat.le_trans HB1.out.size HB3.out.size) HOK.out.2.1, HOK.out.2.2.1, HOK.out.2.2.2.1, HOK.out.2.2.2.2⟩⟩
  · have HNO : Hid ((¬ ∃ o m, CheckOK f o m) ∧ n ≠ 0 ∧ ¬ Fine f) := Hid.mk ⟨fun ⟨o, m, hc⟩ => hno hc.1, hn0, hno⟩
    have HA := Hid.mk hat
    have HB2 := Hid.mk hb2
    obtain ⟨p, pl, rfl, -, -⟩ := hat
    clear hno hb2 hn0
    go_wp2
    refine bodyPost_ret (v := .tuple #[.map none, .iface 82 (.pointer (some ⟨p, 0, none⟩))]) (by simp [results, Tryz.results7, go_sem]) rfl ?_
    exact ⟨HB1.out.trans (HB2.out.mono HB1.out.size), Or.inr ⟨HNO.out.1, _, n, rfl, HNO.out.2.1, HA.out, fun q _ => absurd q HNO.out.2.2⟩⟩
end Go.Proofs.YtfifbnopgpffkaaGreatDoor.Pl

namespace Go.Proofs.YtfifbnopgpffkaaGreatDoor.Pl
open Go.RowKit Go.Maps
open Fw (By FJob Flw ba strV encL zeroJ)

theorem fenv_below {w w' : World} (h : Fw.FEnv w) (hb : Below w.heap.size w w') : Fw.FEnv w' := h.blocks hb.size fun g hg => hb.block g (h.size g hg)
theorem flowO_below {w w' : World} {B : Nat} {f : Flw} {vi vj vo : Value} (h : Fw.FlowO w B f.ins vi f.jobs vj f.outs vo) (hb : Below w.heap.size w w') : Fw.FlowO w' B f.ins vi f.jobs vj f.outs vo := h.imp (fun e z n v xs ho => owns_below ho hb)
/-- What right comes to. -/
def RightR (s : By) (w : World) (e : Ending) (w' : World) : Prop := Below w.heap.size w w' ∧
  ((∃ f o m vi vj vo, Fw.parseF s = .ok f ∧ CheckOK f o m ∧ e = .returned (.tuple #[.agg #[vi, vj, vo], .bool true]) ∧ Fw.FlowRd w' f vi vj vo ∧ Fw.FlwOK f) ∨
   (∃ a1 n1 c1 a2 n2 c2 a3 n3 c3, e = .returned (.tuple #[.agg #[.slice a1 n1 c1, .slice a2 n2 c2, .slice a3 n3 c3], .bool false])))
set_option maxRecDepth 100000 in
set_option maxHeartbeats 1600000 in
theorem right_any (s : By) (w : World) (hE : Fw.FEnv w) (hgl : GErr w) (hs : (ba s).size ≤ maxLen) :
    Calls Tryz.prog 6 #[.string (ba s)] w fun e w' => RightR s w e w' := by
  have hsz : (ba s).size = s.length := rfl
  obtain ⟨w1, hw1⟩ : ∃ x, w.alloc (.cells #[.slice none 0 0, .slice none 0 0, .slice none 0 0] 27) = x := ⟨_, rfl⟩
  have hB1 : Below w.heap.size w w1 := by rw [← hw1]; exact below_box _ _
  have hX1 : Fw.Box w1 w.heap.size [.slice none 0 0, .slice none 0 0, .slice none 0 0] := by rw [← hw1]; exact Fw.Box.new w _ _ _ rfl
  have hs1 : w1.heap.size = w.heap.size + 1 := by rw [← hw1]; simp
  have HB1 := Hid.mk hB1
  have HX1 := Hid.mk hX1
  have HS1 := Hid.mk hs1
  have HE := Hid.mk (And.intro hE hgl)
  have hk0 := hX1.cell 0 (v := .slice none 0 0) rfl
  have hk1 := hX1.cell 1 (v := .slice none 0 0) rfl
  have hk2 := hX1.cell 2 (v := .slice none 0 0) rfl
  have hz0 := hX1.fz 0
  have hz1 := hX1.fz 1
  have hz2 := hX1.fz 2
  unfold maxLen at hs
  by_cases hl : 1000 < s.length
  · have hb : (1000 : Int) < ((ba s).size : Int) := by rw [hsz]; omega
    clear hE hgl hB1 hX1 hs1
    generalize ba s = x at *
    go_enter Tryz.func6, Tryz.ntmps6
    go_wp2
    have X2 := ((HX1.out.set 0 (.slice none 0 0)).set 1 (.slice none 0 0)).set 2 (.slice none 0 0)
    have z0 := X2.cell 0 (v := .slice none 0 0) rfl
    have z1 := X2.cell 1 (v := .slice none 0 0) rfl
    have z2 := X2.cell 2 (v := .slice none 0 0) rfl
    have B2 : Below w.heap.size w (((w1.setCell ⟨w.heap.size, 0, none⟩ (.slice none 0 0)).setCell ⟨w.heap.size, 1, none⟩ (.slice none 0 0)).setCell ⟨w.heap.size, 2, none⟩ (.slice none 0 0)) := ((HB1.out.setCell (p := ⟨w.heap.size, 0, none⟩) (Nat.le_refl _) _).setCell (p := ⟨w.heap.size, 1, none⟩) (Nat.le_refl _) _).setCell (p := ⟨w.heap.size, 2, none⟩) (Nat.le_refl _) _
    refine bodyPost_ret (v := .tuple #[.agg #[.slice none 0 0, .slice none 0 0, .slice none 0 0], .bool false]) (by simp [results, Tryz.results6, go_sem, z0, z1, z2]) rfl ?_
    exact ⟨B2, Or.inr ⟨_, _, _, _, _, _, _, _, _, rfl⟩⟩
  · have hb : ¬ (1000 : Int) < ((ba s).size : Int) := by rw [hsz]; omega
    have HP := Hid.mk (Fw.parse_any s w1 (by omega) (fenv_below hE hB1))
    clear hE hgl hB1 hX1 hs1
    generalize hbx : ba s = x at *
    clear hbx
    go_enter Tryz.func6, Tryz.ntmps6
    go_wp2_with (first | (go_at_call 17; fail))
    refine HP.out.mono ?_
    rintro e2 w2 ⟨⟨f, vi, vj, vo, hpf, rfl, hfl⟩ | ⟨er, b, hpf, rfl, -⟩, hb2⟩
    · have HFO := Hid.mk hfl
      have HPF := Hid.mk hpf
      obtain ⟨ia, ic, rfl⟩ := row_slice (Fw.FlowRd.of hfl).ins
      obtain ⟨ja, jc, rfl⟩ := row_slice (Fw.FlowRd.of hfl).jobs
      obtain ⟨oa, oc, rfl⟩ := row_slice (Fw.FlowRd.of hfl).outs
      have hfok := Fw.parse_ok (by omega) hpf
      obtain ⟨w3, hw3⟩ : ∃ x, w2.alloc (.cells #[.slice ia f.ins.length ic, .slice ja f.jobs.length jc, .slice oa f.outs.length oc] 27) = x := ⟨_, rfl⟩
      have hb23 : Below w2.heap.size w2 w3 := by rw [← hw3]; exact below_box _ _
      have hF3 : FBox w3 w2.heap.size (.slice ia f.ins.length ic) (.slice ja f.jobs.length jc) (.slice oa f.outs.length oc) := by rw [← hw3]; exact FBox.new _ _ _ _ _
      have hb13 : Below w1.heap.size w1 w3 := bel_then hb2 hb23
      have HFL3 := Hid.mk (flowO_below HFO.out hb23)
      have HCK := Hid.mk (check_any f _ _ _ w3 (Fw.FlowRd.of HFL3.out) hfok (cell_below (cell_below HE.out.2 HB1.out) hb13))
      have HB13 := Hid.mk hb13
      have HF3 := Hid.mk hF3
      have g1 := hF3.1
      have g2 := hF3.2.1
      have g3 := hF3.2.2
      have HFOK := Hid.mk hfok
      generalize hni : f.ins.length = ni at *
      generalize hnj : f.jobs.length = nj at *
      generalize hno : f.outs.length = no at *
      clear hfl hpf hb2 hb23 hF3 hb13 hfok
      go_wp2_with (first | (go_at_call 7; fail))
      refine HCK.out.mono ?_
      rintro e4 w4 ⟨hb4, ⟨o, m, A, b, hok, rfl, -, -, -, -⟩ | ⟨hno, ev, n, rfl, hn0, hat, -⟩⟩
      · have HOK := Hid.mk hok
        have hFd := (HF3.out.below hb4).below ((Below.refl _ w4).drew)
        have q1 := hFd.1
        have q2 := hFd.2.1
        have q3 := hFd.2.2
        have hXd : Fw.Box w4.drew w.heap.size [.slice none 0 0, .slice none 0 0, .slice none 0 0] := ((HX1.out.below HB13.out).below hb4).block rfl
        have c0 := hXd.cell 0 (v := .slice none 0 0) rfl
        have c1 := hXd.cell 1 (v := .slice none 0 0) rfl
        have c2 := hXd.cell 2 (v := .slice none 0 0) rfl
        have f0 := hXd.fz 0
        have f1 := hXd.fz 1
        have f2 := hXd.fz 2
        have hX4 : Fw.Box w4 w.heap.size [.slice none 0 0, .slice none 0 0, .slice none 0 0] := hXd.block rfl
        have d0 := hX4.cell 0 (v := .slice none 0 0) rfl
        have d1 := hX4.cell 1 (v := .slice none 0 0) rfl
        have d2 := hX4.cell 2 (v := .slice none 0 0) rfl
        have e0 := hX4.fz 0
        have e1 := hX4.fz 1
        have e2 := hX4.fz 2
        have HXd := Hid.mk hXd
        have HB4 : Hid (Below w.heap.size w w4.drew) := Hid.mk (HB1.out.trans ((bel_then HB13.out hb4).drew.mono HB1.out.size))
        have HFL4 := Hid.mk ((flowO_below HFL3.out hb4).imp (w' := w4.drew) (fun e z n v xs ho => owns_below ho ((Below.refl _ w4).drew)))
        clear hok hb4 hFd hXd
        go_wp2_with fail
        go_region_law (fail)
        all_goals go_wp2
        all_goals
          have X2 := ((HXd.out.set 0 (.slice ia ni ic)).set 1 (.slice ja nj jc)).set 2 (.slice oa no oc)
          have z0 := X2.cell 0 (v := .slice ia ni ic) rfl
          have z1 := X2.cell 1 (v := .slice ja nj jc) rfl
          have z2 := X2.cell 2 (v := .slice oa no oc) rfl
          have y0 : (((w4.setCell ⟨w.heap.size, 0, none⟩ (.slice ia ni ic)).setCell ⟨w.heap.size, 1, none⟩ (.slice ja nj jc)).setCell ⟨w.heap.size, 2, none⟩ (.slice oa no oc)).drew.cell? ⟨w.heap.size, 0, none⟩ = some (.slice ia ni ic) := z0
          have y1 : (((w4.setCell ⟨w.heap.size, 0, none⟩ (.slice ia ni ic)).setCell ⟨w.heap.size, 1, none⟩ (.slice ja nj jc)).setCell ⟨w.heap.size, 2, none⟩ (.slice oa no oc)).drew.cell? ⟨w.heap.size, 1, none⟩ = some (.slice ja nj jc) := z1
          have y2 : (((w4.setCell ⟨w.heap.size, 0, none⟩ (.slice ia ni ic)).setCell ⟨w.heap.size, 1, none⟩ (.slice ja nj jc)).setCell ⟨w.heap.size, 2, none⟩ (.slice oa no oc)).drew.cell? ⟨w.heap.size, 2, none⟩ = some (.slice oa no oc) := z2
          have FL5 := ((HFL4.out.imp (fun e z n v xs h => ownsRow_setCell_below h (a := ⟨w.heap.size, 0, none⟩) (by show w.heap.size < _; have := HS1.out; omega) (.slice ia ni ic))).imp (fun e z n v xs h => ownsRow_setCell_below h (a := ⟨w.heap.size, 1, none⟩) (by show w.heap.size < _; have := HS1.out; omega) (.slice ja nj jc))).imp (fun e z n v xs h => ownsRow_setCell_below h (a := ⟨w.heap.size, 2, none⟩) (by show w.heap.size < _; have := HS1.out; omega) (.slice oa no oc))
          have B2 := ((HB4.out.setCell (p := ⟨w.heap.size, 0, none⟩) (Nat.le_refl _) (.slice ia ni ic)).setCell (p := ⟨w.heap.size, 1, none⟩) (Nat.le_refl _) (.slice ja nj jc)).setCell (p := ⟨w.heap.size, 2, none⟩) (Nat.le_refl _) (.slice oa no oc)
          refine bodyPost_ret (v := .tuple #[.agg #[.slice ia ni ic, .slice ja nj jc, .slice oa no oc], .bool true]) (by simp [results, Tryz.results6, go_sem, z0, z1, z2, y0, y1, y2]) rfl ?_
          exact ⟨B2, Or.inl ⟨f, o, m, _, _, _, HPF.out, HOK.out, rfl, Fw.FlowRd.of FL5, HFOK.out⟩⟩
      · have hFd := (HF3.out.below hb4).below ((Below.refl _ w4).drew)
        have q1 := hFd.1
        have q2 := hFd.2.1
        have q3 := hFd.2.2
        have hXd : Fw.Box w4.drew w.heap.size [.slice none 0 0, .slice none 0 0, .slice none 0 0] := ((HX1.out.below HB13.out).below hb4).block rfl
        have c0 := hXd.cell 0 (v := .slice none 0 0) rfl
        have c1 := hXd.cell 1 (v := .slice none 0 0) rfl
        have c2 := hXd.cell 2 (v := .slice none 0 0) rfl
        have f0 := hXd.fz 0
        have f1 := hXd.fz 1
        have f2 := hXd.fz 2
        have hX4 : Fw.Box w4 w.heap.size [.slice none 0 0, .slice none 0 0, .slice none 0 0] := hXd.block rfl
        have d0 := hX4.cell 0 (v := .slice none 0 0) rfl
        have d1 := hX4.cell 1 (v := .slice none 0 0) rfl
        have d2 := hX4.cell 2 (v := .slice none 0 0) rfl
        have e0 := hX4.fz 0
        have e1 := hX4.fz 1
        have e2 := hX4.fz 2
        have HXd := Hid.mk hXd
        have HB4 : Hid (Below w.heap.size w w4.drew) := Hid.mk (HB1.out.trans ((bel_then HB13.out hb4).drew.mono HB1.out.size))
        obtain ⟨p, pl, rfl, -, -⟩ := hat
        clear hno hb4 hFd hXd
        go_wp2_with fail
        go_region_law (fail)
        all_goals go_wp2
        all_goals
          have X2 := ((HXd.out.set 0 (.slice ia ni ic)).set 1 (.slice ja nj jc)).set 2 (.slice oa no oc)
          have z0 := X2.cell 0 (v := .slice ia ni ic) rfl
          have z1 := X2.cell 1 (v := .slice ja nj jc) rfl
          have z2 := X2.cell 2 (v := .slice oa no oc) rfl
          have y0 : (((w4.setCell ⟨w.heap.size, 0, none⟩ (.slice ia ni ic)).setCell ⟨w.heap.size, 1, none⟩ (.slice ja nj jc)).setCell ⟨w.heap.size, 2, none⟩ (.slice oa no oc)).drew.cell? ⟨w.heap.size, 0, none⟩ = some (.slice ia ni ic) := z0
          have y1 : (((w4.setCell ⟨w.heap.size, 0, none⟩ (.slice ia ni ic)).setCell ⟨w.heap.size, 1, none⟩ (.slice ja nj jc)).setCell ⟨w.heap.size, 2, none⟩ (.slice oa no oc)).drew.cell? ⟨w.heap.size, 1, none⟩ = some (.slice ja nj jc) := z1
          have y2 : (((w4.setCell ⟨w.heap.size, 0, none⟩ (.slice ia ni ic)).setCell ⟨w.heap.size, 1, none⟩ (.slice ja nj jc)).setCell ⟨w.heap.size, 2, none⟩ (.slice oa no oc)).drew.cell? ⟨w.heap.size, 2, none⟩ = some (.slice oa no oc) := z2
          have B2 := ((HB4.out.setCell (p := ⟨w.heap.size, 0, none⟩) (Nat.le_refl _) (.slice ia ni ic)).setCell (p := ⟨w.heap.size, 1, none⟩) (Nat.le_refl _) (.slice ja nj jc)).setCell (p := ⟨w.heap.size, 2, none⟩) (Nat.le_refl _) (.slice oa no oc)
          refine bodyPost_ret (v := .tuple #[.agg #[.slice ia ni ic, .slice ja nj jc, .slice oa no oc], .bool false]) (by simp [results, Tryz.results6, go_sem, z0, z1, z2, y0, y1, y2]) rfl ?_
          exact ⟨B2, Or.inr ⟨_, _, _, _, _, _, _, _, _, rfl⟩⟩
    · obtain ⟨w3, hw3⟩ : ∃ x, w2.alloc (.cells #[.slice none 0 0, .slice none 0 0, .slice none 0 0] 27) = x := ⟨_, rfl⟩
      have hb23 : Below w2.heap.size w2 w3 := by rw [← hw3]; exact below_box _ _
      have hY3 : Fw.Box w3 w2.heap.size [.slice none 0 0, .slice none 0 0, .slice none 0 0] := by rw [← hw3]; exact Fw.Box.new w2 _ _ _ rfl
      have y0 := hY3.cell 0 (v := .slice none 0 0) rfl
      have y1 := hY3.cell 1 (v := .slice none 0 0) rfl
      have y2 := hY3.cell 2 (v := .slice none 0 0) rfl
      have yf0 := hY3.fz 0
      have yf1 := hY3.fz 1
      have yf2 := hY3.fz 2
      obtain ⟨w4, hw4⟩ : ∃ x, ((w3.setCell ⟨w2.heap.size, 0, none⟩ (.slice none 0 0)).setCell ⟨w2.heap.size, 1, none⟩ (.slice none 0 0)).setCell ⟨w2.heap.size, 2, none⟩ (.slice none 0 0) = x := ⟨_, rfl⟩
      have hl2 : w.heap.size ≠ w2.heap.size := by have := HX1.out.below hb2 |>.lt; omega
      have hXd : Fw.Box w4 w.heap.size [.slice none 0 0, .slice none 0 0, .slice none 0 0] := by
        rw [← hw4]
        exact ((((HX1.out.below hb2).below hb23).other _ _ hl2).other _ _ hl2).other _ _ hl2
      have c0 := hXd.cell 0 (v := .slice none 0 0) rfl
      have c1 := hXd.cell 1 (v := .slice none 0 0) rfl
      have c2 := hXd.cell 2 (v := .slice none 0 0) rfl
      have f0 := hXd.fz 0
      have f1 := hXd.fz 1
      have f2 := hXd.fz 2
      have HXd := Hid.mk hXd
      have HB4 : Hid (Below w.heap.size w w4) := Hid.mk (by
        have h3 := HB1.out.trans ((bel_then hb2 hb23).mono HB1.out.size)
        have hle : w.heap.size ≤ w2.heap.size := by have := (HX1.out.below hb2).lt; omega
        rw [← hw4]
        exact ((h3.setCell (p := ⟨w2.heap.size, 0, none⟩) hle _).setCell (p := ⟨w2.heap.size, 1, none⟩) hle _).setCell (p := ⟨w2.heap.size, 2, none⟩) hle _)
      clear hb2 hb23 hXd hpf hY3
      go_wp2
      have X2 := ((HXd.out.set 0 (.slice none 0 0)).set 1 (.slice none 0 0)).set 2 (.slice none 0 0)
      have z0 := X2.cell 0 (v := .slice none 0 0) rfl
      have z1 := X2.cell 1 (v := .slice none 0 0) rfl
      have z2 := X2.cell 2 (v := .slice none 0 0) rfl
      have B2 := ((HB4.out.setCell (p := ⟨w.heap.size, 0, none⟩) (Nat.le_refl _) (.slice none 0 0)).setCell (p := ⟨w.heap.size, 1, none⟩) (Nat.le_refl _) (.slice none 0 0)).setCell (p := ⟨w.heap.size, 2, none⟩) (Nat.le_refl _) (.slice none 0 0)
      refine bodyPost_ret (v := .tuple #[.agg #[.slice none 0 0, .slice none 0 0, .slice none 0 0], .bool false]) (by simp [results, Tryz.results6, go_sem, z0, z1, z2]) rfl ?_
      exact ⟨B2, Or.inr ⟨_, _, _, _, _, _, _, _, _, rfl⟩⟩
end Go.Proofs.YtfifbnopgpffkaaGreatDoor.Pl

namespace Go.Proofs
open Go.Shelf
open Go.RowKit
open Go.Sort
def Tryz.lays107_ren : Go.Shelf.Ren := ⟨fun | 107 => 14 | 108 => 26 | n => n, fun | 28 => 49 | 3 => 3 | 4 => 4 | 0 => 0 | n => n, fun | n => n⟩
theorem Tryz.lays107 : Go.Proofs.Lays.n107 Tryz.prog Tryz.lays107_ren := {
  mixed := by kernel_rfl
  f107 := Tryz.func14.trans (congrArg some (by kernel_rfl))
  f108 := Tryz.func26.trans (congrArg some (by kernel_rfl))
  t0 := Tryz.underlying0
  a0 := Tryz.isAgg0
  z0 := Tryz.sizeOf0
  v0 := Tryz.zeroValue0
  t3 := Tryz.underlying3
  a3 := Tryz.isAgg3
  z3 := Tryz.sizeOf3
  v3 := Tryz.zeroValue3
  t4 := Tryz.underlying4
  a4 := Tryz.isAgg4
  z4 := Tryz.sizeOf4
  v4 := Tryz.zeroValue4
  t28 := Tryz.underlying49
  a28 := Tryz.isAgg49
  z28 := Tryz.sizeOf49
  v28 := Tryz.zeroValue49 }
theorem Tryz.slices_Contains_int (b off n c : Nat) (zs : List Int) (x : Int) (w : World) (hz : n ≤ zs.length) (hbig : n ≤ 9223372036854775807) (hc : ∀ j, j < zs.length → w.cell? ⟨b, off + j, none⟩ = some (.int .i64 (zs.getD j 0))) :
    Calls Tryz.prog 14 #[.slice (some ⟨b, off, none⟩) n c, .int .i64 x] w fun e w' => e = .returned (.bool ((zs.take n).contains x)) ∧ w' = w := Any.slices_Contains_int Tryz.lays107 b off n c zs x w hz hbig hc
theorem Tryz.slices_Contains_int_empty (a : Option Addr) (c : Nat) (x : Int) (w : World) :
    Calls Tryz.prog 14 #[.slice a 0 c, .int .i64 x] w fun e w' => e = .returned (.bool false) ∧ w' = w := Any.slices_Contains_int_empty Tryz.lays107 a c x w
def Tryz.lays111_ren : Go.Shelf.Ren := ⟨fun | 111 => 18 | n => n, fun | 28 => 49 | 3 => 3 | 4 => 4 | 0 => 0 | n => n, fun | n => n⟩
theorem Tryz.lays111 : Go.Proofs.Lays.n111 Tryz.prog Tryz.lays111_ren := {
  mixed := by kernel_rfl
  f111 := Tryz.func18.trans (congrArg some (by kernel_rfl))
  t0 := Tryz.underlying0
  a0 := Tryz.isAgg0
  z0 := Tryz.sizeOf0
  v0 := Tryz.zeroValue0
  t3 := Tryz.underlying3
  a3 := Tryz.isAgg3
  z3 := Tryz.sizeOf3
  v3 := Tryz.zeroValue3
  t4 := Tryz.underlying4
  a4 := Tryz.isAgg4
  z4 := Tryz.sizeOf4
  v4 := Tryz.zeroValue4
  t28 := Tryz.underlying49
  a28 := Tryz.isAgg49
  z28 := Tryz.sizeOf49
  v28 := Tryz.zeroValue49 }
theorem Tryz.slices_Equal_int (b1 o1 n c b2 o2 m d : Nat) (xs ys : List Int) (w : World) (hx : n ≤ xs.length) (hy : m ≤ ys.length) (hbig : n ≤ 9223372036854775807) (hbig2 : m ≤ 9223372036854775807) (hc1 : ∀ j, j < xs.length → w.cell? ⟨b1, o1 + j, none⟩ = some (.int .i64 (xs.getD j 0))) (hc2 : ∀ j, j < ys.length → w.cell? ⟨b2, o2 + j, none⟩ = some (.int .i64 (ys.getD j 0))) :
    Calls Tryz.prog 18 #[.slice (some ⟨b1, o1, none⟩) n c, .slice (some ⟨b2, o2, none⟩) m d] w fun e w' => e = .returned (.bool (xs.take n == ys.take m)) ∧ ∃ q, w' = w.drewN q := Any.slices_Equal_int Tryz.lays111 b1 o1 n c b2 o2 m d xs ys w hx hy hbig hbig2 hc1 hc2
end Go.Proofs

namespace Go.Proofs.YtfifbnopgpffkaaGreatDoor.Pl
open Go.RowKit Go.Maps
open Fw (By FJob Flw ba strV encL zeroJ)

/-- The fact's two texts, and flows. -/
def ps1 : By := [105, 110, 32, 112, 58, 32, 105, 100, 32, 105, 110, 116, 59, 32, 106, 111, 98, 32, 97, 32, 61, 32, 100, 105, 115, 116, 105, 110, 99, 116, 32, 98, 59, 32, 106, 111, 98, 32, 98, 32, 61, 32, 100, 105, 115, 116, 105, 110, 99, 116, 32, 112, 59, 32, 111, 117, 116, 32, 114, 32, 61, 32, 97, 59]
def ps2 : By := [106, 111, 98, 32, 97, 32, 61, 32, 100, 105, 115, 116, 105, 110, 99, 116, 32, 98, 59, 32, 106, 111, 98, 32, 98, 32, 61, 32, 100, 105, 115, 116, 105, 110, 99, 116, 32, 97, 59]
def pf1 : Flw := ⟨[⟨0, [112], [([105, 100], 1)]⟩], [⟨14, 6, [[97]], [[98]], [], [], Fw.agg0, Fw.agg0, 0⟩, ⟨34, 6, [[98]], [[112]], [], [], Fw.agg0, Fw.agg0, 0⟩], [⟨54, [114], [97]⟩]⟩
def pf2 : Flw := ⟨[], [⟨0, 6, [[97]], [[98]], [], [], Fw.agg0, Fw.agg0, 0⟩, ⟨20, 6, [[98]], [[97]], [], [], Fw.agg0, Fw.agg0, 0⟩], []⟩
set_option maxRecDepth 100000 in
theorem parse1 : Fw.parseF ps1 = .ok pf1 := by kernel_rfl
set_option maxRecDepth 100000 in
theorem parse2 : Fw.parseF ps2 = .ok pf2 := by kernel_rfl
theorem ord1 : ordF pf1 = some [1, 0] := by kernel_rfl
theorem ord2 : ordF pf2 = none := by kernel_rfl
theorem fine2 : Fine pf2 := by
  refine ⟨by simp [pf2], by simp [madeL, pf2], ?_, by simp [pf2], by simp [pf2]⟩
  intro j hj n hn
  simp [pf2] at hj
  rcases hj with rfl | rfl <;> simp at hn <;> subst hn <;> simp [madeL, pf2]
set_option maxRecDepth 100000 in
set_option maxHeartbeats 1600000 in
theorem planned_any (w : World) (hE : Fw.FEnv w) (hgl : GErr w) :
    Calls Tryz.prog 5 #[] w fun e w' => e = .returned (.bool true) ∧ Below w.heap.size w w' := by
  have HP := Hid.mk (Fw.parse_any ps1 w (by decide) hE)
  have hsv : (ba ps1) = ⟨#[105, 110, 32, 112, 58, 32, 105, 100, 32, 105, 110, 116, 59, 32, 106, 111, 98, 32, 97, 32, 61, 32, 100, 105, 115, 116, 105, 110, 99, 116, 32, 98, 59, 32, 106, 111, 98, 32, 98, 32, 61, 32, 100, 105, 115, 116, 105, 110, 99, 116, 32, 112, 59, 32, 111, 117, 116, 32, 114, 32, 61, 32, 97, 59]⟩ := rfl
  have hsv2 : (ba ps2) = ⟨#[106, 111, 98, 32, 97, 32, 61, 32, 100, 105, 115, 116, 105, 110, 99, 116, 32, 98, 59, 32, 106, 111, 98, 32, 98, 32, 61, 32, 100, 105, 115, 116, 105, 110, 99, 116, 32, 97, 59]⟩ := rfl
  have HE := Hid.mk (And.intro hE hgl)
  rw [hsv] at HP
  clear hE hgl
  go_enter Tryz.func5, Tryz.ntmps5
  go_wp2_with (first | (go_at_call 17; fail))
  refine HP.out.mono ?_
  rintro e1 w1 ⟨⟨f, vi, vj, vo, hpf, rfl, hfl⟩ | ⟨er, b, hpf, rfl, -⟩, hb1⟩
  · rw [parse1] at hpf
    obtain rfl : pf1 = f := by injection hpf
    have HFO := Hid.mk hfl
    obtain ⟨ia, ic, rfl⟩ := row_slice (Fw.FlowRd.of hfl).ins
    obtain ⟨ja, jc, rfl⟩ := row_slice (Fw.FlowRd.of hfl).jobs
    obtain ⟨oa, oc, rfl⟩ := row_slice (Fw.FlowRd.of hfl).outs
    have hfok := Fw.parse_ok (l := ps1) (by decide) parse1
    obtain ⟨w2, hw2⟩ : ∃ x, w1.alloc (.cells #[.slice ia pf1.ins.length ic, .slice ja pf1.jobs.length jc, .slice oa pf1.outs.length oc] 27) = x := ⟨_, rfl⟩
    have hb12 : Below w1.heap.size w1 w2 := by rw [← hw2]; exact below_box _ _
    have hX2 : Fw.Box w2 w1.heap.size [.slice ia pf1.ins.length ic, .slice ja pf1.jobs.length jc, .slice oa pf1.outs.length oc] := by rw [← hw2]; exact Fw.Box.new w1 _ _ _ rfl
    have g1 := hX2.cell 0 (v := .slice ia pf1.ins.length ic) rfl
    have g2 := hX2.cell 1 (v := .slice ja pf1.jobs.length jc) rfl
    have g3 := hX2.cell 2 (v := .slice oa pf1.outs.length oc) rfl
    have HX2 := Hid.mk hX2
    have HB2 := Hid.mk (bel_then hb1 hb12)
    have HOR := Hid.mk (order_any pf1 _ _ _ w2 (Fw.FlowRd.of (flowO_below HFO.out hb12)) hfok)
    have HL1 : Hid (w.heap.size ≤ w1.heap.size) := Hid.mk hb1.size
    generalize pf1.ins.length = n1 at *
    generalize pf1.jobs.length = n2 at *
    generalize pf1.outs.length = n3 at *
    clear hfl hpf hb1 hb12 hX2 hfok HFO
    go_wp2_with (first | (go_at_call 13; fail))
    refine HOR.out.mono ?_
    rintro e3 w3 ⟨hb3, ⟨hno, -⟩ | ⟨o, tv, hor, rfl, htv⟩⟩
    · rw [ord1] at hno; cases hno
    · rw [ord1] at hor
      obtain rfl : [1, 0] = o := Option.some.inj hor
      obtain ⟨tg, tc, rfl, htB, htl, hti⟩ := ints_of htv (by decide)
      have hEQ : ∀ V, Below w3.heap.size w3 V → Calls Tryz.prog 18 #[.slice (some ⟨tg, 0, none⟩) 2 tc, .slice (some ⟨w3.heap.size, 0, none⟩) 2 2] (w3.alloc (.cells #[.int .i64 1, .int .i64 0] 3)) fun e w' => e = .returned (.bool true) ∧ ∃ q, w' = (w3.alloc (.cells #[.int .i64 1, .int .i64 0] 3)).drewN q := fun V hV => by
        have := Tryz.slices_Equal_int tg 0 2 tc w3.heap.size 0 2 2 [1, 0] [1, 0] (w3.alloc (.cells #[.int .i64 1, .int .i64 0] 3)) (by decide) (by decide) (by decide) (by decide) (fun j hj => by
          rw [World.cell?_alloc_lt _ _ ⟨tg, 0 + j, none⟩ htl, hti j (by simpa using hj)]
          rcases (show j = 0 ∨ j = 1 by simp at hj; omega) with rfl | rfl <;> rfl) (fun j hj => by
          rw [World.cell?_alloc_at _ _ _ _ rfl]
          rcases (show j = 0 ∨ j = 1 by simp at hj; omega) with rfl | rfl <;> rfl)
        exact this
      have HEQ := Hid.mk (hEQ w3 (Below.refl _ _))
      have HB3 := Hid.mk (bel_then HB2.out hb3)
      have HX3 := Hid.mk (HX2.out.below hb3)
      clear hEQ hti htv hor hb3 htl
      go_wp2_with (first | (go_at_call 18; fail))
      refine HEQ.out.mono ?_
      rintro e4 w4 ⟨rfl, qq, hw4⟩
      have hb34 : Below w3.heap.size w3 w4 := by rw [hw4]; exact below_drewN (below_box _ _) _
      have HB4 := Hid.mk (bel_then HB3.out hb34)
      have HX4 := Hid.mk (HX3.out.below hb34)
      have HP2 := Hid.mk (Fw.parse_any ps2 w4 (by decide) (fenv_below HE.out.1 HB4.out))
      rw [hsv2] at HP2
      clear hw4 hb34
      go_wp2_with (first | (go_at_call 17; fail))
      refine HP2.out.mono ?_
      rintro e5 w5 ⟨⟨f, vi, vj, vo, hpf, rfl, hfl⟩ | ⟨er, b, hpf, rfl, -⟩, hb5⟩
      · rw [parse2] at hpf
        obtain rfl : pf2 = f := by injection hpf
        have HFO := Hid.mk hfl
        obtain ⟨ia2, ic2, rfl⟩ := row_slice (Fw.FlowRd.of hfl).ins
        obtain ⟨ja2, jc2, rfl⟩ := row_slice (Fw.FlowRd.of hfl).jobs
        obtain ⟨oa2, oc2, rfl⟩ := row_slice (Fw.FlowRd.of hfl).outs
        have hX5 := HX4.out.below hb5
        have k0 := hX5.cell 0 (v := .slice ia n1 ic) rfl
        have k1 := hX5.cell 1 (v := .slice ja n2 jc) rfl
        have k2 := hX5.cell 2 (v := .slice oa n3 oc) rfl
        have f0 := hX5.fz 0
        have f1 := hX5.fz 1
        have f2 := hX5.fz 2
        obtain ⟨w6, hw6⟩ : ∃ x, ((w5.setCell ⟨w1.heap.size, 0, none⟩ (.slice ia2 pf2.ins.length ic2)).setCell ⟨w1.heap.size, 1, none⟩ (.slice ja2 pf2.jobs.length jc2)).setCell ⟨w1.heap.size, 2, none⟩ (.slice oa2 pf2.outs.length oc2) = x := ⟨_, rfl⟩
        have hX6 : Fw.Box w6 w1.heap.size [.slice ia2 pf2.ins.length ic2, .slice ja2 pf2.jobs.length jc2, .slice oa2 pf2.outs.length oc2] := by rw [← hw6]; exact ((hX5.set 0 _).set 1 _).set 2 _
        have hlt4 : w1.heap.size < w4.heap.size := HX4.out.lt
        have hFL6 : Fw.FlowO w6 w4.heap.size pf2.ins (.slice ia2 pf2.ins.length ic2) pf2.jobs (.slice ja2 pf2.jobs.length jc2) pf2.outs (.slice oa2 pf2.outs.length oc2) := by
          rw [← hw6]
          exact ((HFO.out.imp (fun e z n v xs h => ownsRow_setCell_below h (a := ⟨w1.heap.size, 0, none⟩) hlt4 _)).imp (fun e z n v xs h => ownsRow_setCell_below h (a := ⟨w1.heap.size, 1, none⟩) hlt4 _)).imp (fun e z n v xs h => ownsRow_setCell_below h (a := ⟨w1.heap.size, 2, none⟩) hlt4 _)
        have hb6 : Below w.heap.size w w6 := by
          rw [← hw6]
          exact (((bel_then HB4.out hb5).setCell (p := ⟨w1.heap.size, 0, none⟩) HL1.out _).setCell (p := ⟨w1.heap.size, 1, none⟩) HL1.out _).setCell (p := ⟨w1.heap.size, 2, none⟩) HL1.out _
        have HB6 := Hid.mk hb6
        have HCK := Hid.mk (check_any pf2 _ _ _ w6 (Fw.FlowRd.of hFL6) (Fw.parse_ok (l := ps2) (by decide) parse2) (cell_below HE.out.2 hb6))
        have g4 := hX6.cell 0 (v := .slice ia2 pf2.ins.length ic2) rfl
        have g5 := hX6.cell 1 (v := .slice ja2 pf2.jobs.length jc2) rfl
        have g6 := hX6.cell 2 (v := .slice oa2 pf2.outs.length oc2) rfl
        generalize pf2.ins.length = m1 at *
        generalize pf2.jobs.length = m2 at *
        generalize pf2.outs.length = m3 at *
        clear hfl hpf hb5 hX5 hX6 hFL6 hb6 HFO
        go_wp2_with (first | (go_at_call 7; fail))
        refine HCK.out.mono ?_
        rintro e7 w7 ⟨hb7, ⟨o, m, A, b, hok, -⟩ | ⟨-, ev, n, rfl, hn0, hat, h11⟩⟩
        · have := hok.2.1
          rw [ord2] at this
          cases this
        · obtain rfl : n = 11 := h11 fine2 ord2
          obtain ⟨p, pl, rfl, hp0, -⟩ := hat
          have HTL := Hid.mk (Dk.tellA_any 11 p w7 hp0 (cell_below HE.out.2 (bel_then HB6.out hb7)))
          have HB7 := Hid.mk (bel_then HB6.out hb7)
          clear hb7 hn0 hp0 h11
          go_wp2_with (first | (go_at_call 19; refine HTL.out.mono ?_; rintro e8 w8 ⟨rfl, hb8⟩; have HB8 := Hid.mk (bel_then HB7.out hb8); clear hb8))
          go_ret
          exact ⟨rfl, HB8.out⟩
      · rw [parse2] at hpf; cases hpf
  · rw [parse1] at hpf; cases hpf
end Go.Proofs.YtfifbnopgpffkaaGreatDoor.Pl

namespace Go.Proofs.YtfifbnopgpffkaaGreatDoor.Pl
open Go.RowKit Go.Maps Go.Shelf
open Fw (By FJob Flw ba strV encL zeroJ)

/-- Two maps held against each other: the library's contract, laid at this program. -/
def eqRen : Go.Shelf.Ren := ⟨fun | 7 => 10 | n => n, fun | 23 => 30 | 29 => 30 | 26 => 9 | 27 => 45 | 31 => 45 | 32 => 46 | 37 => 67 | 3 => 3 | 4 => 4 | 0 => 0 | n => n, fun | n => n⟩
theorem eqLays : SlLaysEq.n7 Tryz.prog eqRen := {
  mixed := by kernel_rfl
  f7 := ⟨Tryz.f10.name, by kernel_rfl, Tryz.func10.trans (congrArg some (by kernel_rfl))⟩
  t0 := Tryz.underlying0
  a0 := Tryz.isAgg0
  z0 := Tryz.sizeOf0
  v0 := Tryz.zeroValue0
  t3 := Tryz.underlying3
  a3 := Tryz.isAgg3
  z3 := Tryz.sizeOf3
  v3 := Tryz.zeroValue3
  t4 := Tryz.underlying4
  a4 := Tryz.isAgg4
  z4 := Tryz.sizeOf4
  v4 := Tryz.zeroValue4
  t23 := Tryz.underlying30
  a23 := Tryz.isAgg30
  z23 := Tryz.sizeOf30
  v23 := Tryz.zeroValue30
  a26 := Tryz.isAgg9
  z26 := Tryz.sizeOf9
  a27 := Tryz.isAgg45
  z27 := Tryz.sizeOf45
  t29 := Tryz.underlying30
  a29 := Tryz.isAgg30
  z29 := Tryz.sizeOf30
  v29 := Tryz.zeroValue30
  a31 := Tryz.isAgg45
  z31 := Tryz.sizeOf45
  t32 := Tryz.underlying46
  a32 := Tryz.isAgg46
  z32 := Tryz.sizeOf46
  v32 := Tryz.zeroValue46
  t37 := Tryz.underlying67
  a37 := Tryz.isAgg67
  z37 := Tryz.sizeOf67 }
theorem pickN (a : Int) (n : Nat) (w : World) (h0 : 0 < n) (h16 : n ≤ 16) :
    Calls Tryz.prog 8 #[.int .i64 a, .int .i64 (n : Nat)] w fun e w' => ∃ k : Nat, e = .returned (.int .i64 (k : Int)) ∧ k < n ∧ w' = w := by
  have hn : ¬ (IntKind.u64.wrap (n : Int)) = 0 := by unfold IntKind.wrap; simp [IntKind.signed, IntKind.bits]; omega
  have hn2 : IntKind.u64.wrap (n : Int) = (n : Int) := by unfold IntKind.wrap; simp [IntKind.signed, IntKind.bits]; omega
  have hnI : ¬ (n : Int) = 0 := by omega
  go_enter Tryz.func8, Tryz.ntmps8
  go_wp2
  go_ret
  have hX : IntKind.u64.wrap a = a % 18446744073709551616 := by unfold IntKind.wrap; simp [IntKind.signed, IntKind.bits]
  have h0 : 0 ≤ IntKind.u64.wrap a := by rw [hX]; omega
  have hm : (IntKind.u64.wrap a).tmod (n : Int) = (IntKind.u64.wrap a) % (n : Int) := Int.tmod_eq_emod_of_nonneg h0
  have hb1 := Int.emod_nonneg (IntKind.u64.wrap a) (show (n : Int) ≠ 0 by omega)
  have hb2 := Int.emod_lt_of_pos (IntKind.u64.wrap a) (show (0 : Int) < (n : Int) by omega)
  have hw : wrap64 ((IntKind.u64.wrap a).tmod (n : Int)) = ((IntKind.u64.wrap a % (n : Int)).toNat : Int) := by rw [hm]; unfold wrap64; omega
  refine ⟨(IntKind.u64.wrap a % (n : Int)).toNat, ?_, by omega, rfl⟩
  show Ending.returned (.int .i64 (wrap64 ((IntKind.u64.wrap a).tmod (n : Int)))) = _
  rw [hw]
/-- An append to a row of the call's own, as a step of a region in any order. -/
theorem step_append_own {P : Program} {ops : Array Oper} {o : Oper} {a : Act} {w : World} {K : Act → World → Prop} {Q : Exit → Act → World → Prop} {E : Prop} (hgd : o.guard = none) (s x : Operand) (t : TypeId)
    (ho : o.op = .call { callee := .builtin .append, args := #[s, x], argTypes := #[t, t] })
    (base : Nat) (e : TypeId) (i : TypeInfo) (z : Value) (size bytes : Nat) (ht : P.underlying t = some (.slice e)) (hi : P.info? e = some i) (hz : i.zero = some z)
    (hsize : i.size = size) (hby : i.bytes = bytes) (hzs : z.cells.size = size) (hsz : 0 < size)
    (v : Value) (n : Nat) (xs : List Value) (hs : a.eval s = v) (hown : w.ownsRow base e size v n xs)
    (ad : Addr) (m c : Nat) (news : List Value) (hx : a.eval x = .slice (some ad) m c) (hl : news.length = m * size) (hnews : ∀ j u, news[j]? = some u → w.cell? (ad.add j) = some u) (h1 : ∀ u ∈ news, u.oneCell' = true)
    (h63 : n + m ≤ maxLen) (hbytes : (n + m) * bytes ≤ 140737488355328) (hbase : base ≤ w.heap.size)
    (h : ∀ v' w', w'.ownsRow base e size v' (n + m) (xs ++ news) → w.grownBy w' v.ownBlock → (v' = .slice none 0 0 ↔ v = .slice none 0 0 ∧ m = 0) → K (a.put o.dst v') w') :
    if Region.wanted o (yielded ops a.tmps) = true then Oper.wp P o a w K Q else E := by
  rw [if_pos (by simp [Region.wanted, hgd])]
  exact wp_append_own w s x t ho base e i z size bytes ht hi hz hsize hby hzs hsz v n xs hs hown ad m c news hx hl hnews h1 h63 hbytes hbase h
set_option maxRecDepth 100000 in
set_option maxHeartbeats 800000 in
theorem cloneJob_in (b o n c : Nat) (xs : List Value) (w : World) (hn : xs.length = n * 15) (hn' : n ≤ 100) (hb : b < w.heap.size) (hv : w.rangeAt b o xs) (h1 : ∀ u ∈ xs, u.oneCell' = true) :
    Calls Tryz.prog 9 #[.slice (some ⟨b, o, none⟩) n c] w fun e w' => ∃ v, e = .returned v ∧ w'.ownsRow w.heap.size 43 15 v n xs ∧ Below w.heap.size w w' := by
  obtain ⟨i0, hi, hz0, hz1, hz2⟩ := info_parts Fw.Tryz.infoJob
  have HN := Hid.mk hn
  have HNW : Hid (∀ (j : Nat) (u : Value), xs[j]? = some u → (w.alloc (.cells #[] 43)).cell? ((⟨b, o, none⟩ : Addr).add j) = some u) := Hid.mk fun j u hu => by
    rw [Addr.add_mid, World.cell?_alloc_lt _ _ ⟨b, o + j, none⟩ hb]
    exact hv j u hu
  clear hn hv
  have q22 : ∀ (w : World) (a : Option Addr) (n c n' c' : Nat), (binOp .eql 24 (.slice a n c) (.slice none n' c')).run Tryz.prog w = .ok (.bool a.isNone) w := fun w a n c n' c' => Lib.run_eql_slice_nil w _ _ a n c n' c' Tryz.underlying24
  go_enter Tryz.func9, Tryz.ntmps9
  go_wp2_with (at_builtin; refine wpList_append_own _ rfl _ _ 24 rfl w.heap.size 43 i0 _ 15 208 Tryz.underlying24 hi hz0 hz1 hz2 rfl (by decide) _ _ _ rfl (own_empty w _ _ _ (Nat.le_refl _)) ⟨b, o, none⟩ n c xs rfl HN.out HNW.out h1 ?c3 ?c4 ?c5 ?_)
  case c3 => unfold maxLen; omega
  case c4 => omega
  case c5 => simp
  intro v' w4 hown' hgrow _
  have hbl : Below w.heap.size w w4 := (below_box w _).grown hgrow (by simp) (fun q hq => by simp [Value.ownBlock] at hq; omega)
  have HO := Hid.mk (show w4.ownsRow w.heap.size 43 15 v' n xs by simpa using hown')
  clear hown' hgrow
  go_wp2
  go_ret
  exact ⟨_, rfl, HO.out, hbl⟩
end Go.Proofs.YtfifbnopgpffkaaGreatDoor.Pl

namespace Go.Proofs.YtfifbnopgpffkaaGreatDoor.Pl
open Go.RowKit Go.Maps Go.Shelf
open Fw (By FJob Flw ba strV encL zeroJ)

open Classical in
/-- An element that is one of these, as it lies there. -/
noncomputable def Rsel (L : List Value) (v : Value) : Option (DataW Value × List MemPlace) := if v ∈ L then some (.held v, []) else none
theorem Rsel_some {L : List Value} {v : Value} {z : DataW Value × List MemPlace} (h : Rsel L v = some z) : v ∈ L ∧ z = (.held v, []) := by
  unfold Rsel at h
  split at h
  · rename_i hv
    exact ⟨hv, (Option.some.inj h).symm⟩
  · cases h
theorem Rsel_in {L : List Value} {v : Value} (h : v ∈ L) : Rsel L v = some (.held v, []) := by unfold Rsel; rw [if_pos h]
theorem lookA_some {A : AM} {n : By} {v : Value} (h : lookA A n = some v) : n ∈ keysA A ∧ v ∈ A.map (·.2) := by
  unfold lookA at h
  cases hf : A.find? fun x => x.1 == n with
  | none => rw [hf] at h; cases h
  | some x =>
    rw [hf] at h
    have hx := List.mem_of_find?_eq_some hf
    have hk := List.find?_some hf
    simp at hk
    obtain rfl := Option.some.inj h
    exact ⟨List.mem_map.2 ⟨x, hx, hk⟩, List.mem_map.2 ⟨x, hx, rfl⟩⟩
theorem entry_of {D : DataW Value} {A : AM} {es : List (Lit × DataW Value)} (hD : D = .map es) (hap : es.Pairwise (fun p q => p.1 ≠ q.1)) (hkeys : ∀ p ∈ es, WideAt.IsKeyLit p.1) (hs : Dk.Sees D (mvOf A)) {p : Lit × DataW Value} (hp : p ∈ es) : ∃ s v, p.1 = .string s ∧ lookA A s = some v ∧ p.2 = .held v := by
  subst hD
  have e2 := WideAt.atKey_mem (z := .nil) (hkeys p hp) hap hp
  have hh : has (DataW.map es) p.1 = true := List.any_eq_true.2 ⟨p, hp, WideAt.sameKey_self (hkeys p hp)⟩
  obtain ⟨h1, h2⟩ := hs.2 p.1
  rw [hh] at h1
  cases hm : mvOf A p.1 with
  | none => rw [hm] at h1; cases h1
  | some v =>
    have := h2 .nil
    rw [hm] at this
    cases hl : p.1 with
    | string s => exact ⟨s, v, rfl, by rw [hl] at hm; exact hm, by rw [← e2, this]⟩
    | _ => rw [hl] at hm; cases hm
theorem MapC.sel {w : World} {b : Nat} {A : AM} (h : MapC w b A) (L : List Value) (hL : ∀ v ∈ A.map (·.2), v ∈ L) : ∃ D, w.ownsMap Tryz.prog 9 (Rsel L) b A.length D ∧ Dk.Sees D (mvOf A) ∧ Maps.size D = A.length := by
  obtain ⟨D, h1, h2, h3⟩ := h.is
  obtain ⟨es0, hD, hap, hkeys⟩ := h1.entries keyedS
  obtain ⟨es, c, hb, F, hsz, hDe⟩ := h1
  have hmem : ∀ x ∈ es.toList, x.val ∈ L := by
    intro x hx
    obtain ⟨y, hy⟩ := F.reads x hx
    have hy2 : y.2 = .held x.val := by
      unfold WideElems.rd at hy
      simp only [Option.bind_eq_some_iff, Option.map_eq_some_iff] at hy
      obtain ⟨key, -, d, hd, rfl⟩ := hy
      have : Dk.Rv x.val = some (.held x.val, []) := rfl
      rw [this] at hd
      rw [← Option.some.inj hd]
    have hin : y ∈ es0 := by
      have e : es0 = (es.toList.map (WideElems.rg Tryz.prog 9 Dk.Rv)).foldr DataW.insert [] := by
        rw [hD] at hDe
        injection hDe
      rw [e, mem_sorted]
      refine List.mem_map.2 ⟨x, hx, ?_⟩
      unfold WideElems.rg
      rw [hy]; rfl
    obtain ⟨s, v, -, hl, hv⟩ := entry_of hD hap hkeys h2 hin
    rw [hy2] at hv
    injection hv with hv
    rw [hv]
    exact hL v (lookA_some hl).2
  obtain ⟨F', hrg, -⟩ := F.stay (R' := Rsel L) (fun x hx z hz => by
    rw [Rsel_in (hmem x hx)]
    have : Dk.Rv x.val = some (.held x.val, []) := rfl
    rw [this] at hz
    exact hz)
  exact ⟨D, ⟨es, c, hb, F', hsz, by rw [hDe, hrg]⟩, h2, h3⟩
theorem cols_ext {w : World} {b o : Nat} {c d : Cs} (hl : c.length = d.length) (h1 : ColsAt w b o c) (h2 : ColsAt w b o d) : c = d := by
  refine List.ext_getElem hl (fun i hi hj => ?_)
  have a := h1 i hi
  have b' := h2 i hj
  have e1 := Option.some.inj (a.1.symm.trans b'.1)
  have e2 := Option.some.inj (a.2.symm.trans b'.2)
  injection e1 with e1
  injection e2 with _ e2
  exact Prod.ext e1 e2
theorem colV_one {w : World} {u : Value} {c d : Cs} (h1 : ColV w u c) (h2 : ColV w u d) : c = d := by
  obtain ⟨b, o, k, rfl, -, -, h4⟩ := h1
  obtain ⟨b', o', k', e, -, -, h5⟩ := h2
  simp only [Value.slice.injEq, Option.some.injEq, Addr.mk.injEq, and_true] at e
  obtain ⟨⟨rfl, rfl⟩, hl, rfl⟩ := e
  exact cols_ext hl h4 h5
open Classical in
/-- Do these two hold the same columns? -/
noncomputable def eqD (w : World) : DataW Value → DataW Value → Bool
  | .held x, .held y => decide (∃ cs, ColV w x cs ∧ ColV w y cs)
  | _, _ => false
theorem eqD_true {w : World} {x y : Value} (h : ∃ cs, ColV w x cs ∧ ColV w y cs) : eqD w (.held x) (.held y) = true := by
  classical
  unfold eqD
  exact decide_eq_true h
theorem eqD_false {w : World} {x y : Value} (h : ¬ ∃ cs, ColV w x cs ∧ ColV w y cs) : eqD w (.held x) (.held y) = false := by
  classical
  unfold eqD
  exact decide_eq_false h
theorem grown_of {w w' : World} (h : Below w.heap.size w w') : w.grownBy w' none := ⟨h.os, h.tape, h.output, h.size, fun i hi _ => h.block i hi⟩
theorem below_of {w w' : World} (h : w.grownBy w' none) : Below w.heap.size w w' := ⟨h.os, h.tape, h.output, h.size, fun i hi => h.block i hi (by simp)⟩
set_option maxHeartbeats 400000 in
theorem turns1_any (x y : Value) (r : Bool) (w : World) (h : Calls Tryz.prog 12 #[x, y] w fun e w' => e = .returned (.bool r) ∧ Below w.heap.size w w') :
    Calls Tryz.prog 11 #[x, y] w fun e w' => e = .returned (.bool r) ∧ Below w.heap.size w w' := by
  have H := Hid.mk h
  clear h
  go_enter Tryz.func11, Tryz.ntmps11
  go_wp2_with (first | (go_at_call 12; refine H.out.mono ?_; rintro e w2 ⟨rfl, hb2⟩))
  go_ret
  exact ⟨rfl, hb2⟩
set_option maxHeartbeats 400000 in
theorem eq_nil (b o n c : Nat) (w : World) (hn : 0 < n) (h6 : n ≤ 6) : Calls Tryz.prog 12 #[.slice (some ⟨b, o, none⟩) n c, .slice none 0 0] w fun e w' => e = .returned (.bool false) ∧ Below w.heap.size w w' := by
  have h1 : ((n : Int) != 0) = true := by simp; omega
  have h2 : ¬ (n : Int) = 0 := by omega
  go_enter Tryz.func12, Tryz.ntmps12
  go_wp2
  go_ret
  exact ⟨rfl, Below.refl _ _⟩
theorem eq_cols {w W : World} {x y : Value} {c d : Cs} (hW : Below w.heap.size w W) (hx : ColV w x c) (hy : ColV w y d) (hc : CsOK c) (hd : CsOK d) : Calls Tryz.prog 12 #[x, y] W fun e w' => e = .returned (.bool (eqD w (.held x) (.held y))) ∧ Below W.heap.size W w' := by
  obtain ⟨b, o, k, hxe, -, hb, h4⟩ := hx.below hW
  obtain ⟨b', o', k', hye, -, hb', h5⟩ := hy.below hW
  by_cases e : c = d
  · subst e
    have he : eqD w (.held x) (.held y) = true := eqD_true ⟨c, hx, hy⟩
    rw [he, hxe, hye]
    exact eqC_in b o k b' o' k' _ c W rfl (by have := hc.2.1; omega) hb hb' h4 h5
  · have he : eqD w (.held x) (.held y) = false := by
      refine eqD_false ?_
      rintro ⟨cs, q1, q2⟩
      exact e ((colV_one hx q1).trans (colV_one hy q2).symm)
    rw [he, hxe, hye]
    exact eqC_ne b o k b' o' k' _ _ c d W rfl rfl (by have := hc.2.1; omega) (by have := hd.2.1; omega) hb hb' h4 h5 e
theorem Holds2.val {w : World} {A : AM} {m : CM} (h : Holds2 w A m) (hok : ∀ c ∈ m, CsOK c.2) {v : Value} (hv : v ∈ A.map (·.2)) : ∃ cs, ColV w v cs ∧ CsOK cs := by
  induction A generalizing m with
  | nil => cases hv
  | cons a A ih => cases m with
    | nil => exact h.elim
    | cons c m =>
      rcases List.mem_cons.1 hv with rfl | hv
      · exact ⟨c.2, h.1.2, hok c (by simp)⟩
      · exact ih h.2 (fun x hx => hok x (by simp [hx])) hv
set_option maxRecDepth 100000 in
theorem eqMaps {w : World} {b1 b2 : Nat} {A1 A2 : AM} {m1 m2 : CM} (h1 : MapC w b1 A1) (h2 : MapC w b2 A2) (H1 : Holds2 w A1 m1) (H2 : Holds2 w A2 m2) (o1 : ∀ c ∈ m1, CsOK c.2) (o2 : ∀ c ∈ m2, CsOK c.2) (hlook : ∀ n, lookM m1 n = lookM m2 n) (hlen : m1.length = m2.length) :
    Calls Tryz.prog 10 #[.map (some b1), .map (some b2), .func (.func 11) #[] #[]] w fun e w' => e = .returned (.bool true) ∧ Below w.heap.size w w' := by
  obtain ⟨L1, hL1⟩ : ∃ L1 : List Value, L1 = A1.map (·.2) := ⟨_, rfl⟩
  obtain ⟨L2, hL2⟩ : ∃ L2 : List Value, L2 = A2.map (·.2) := ⟨_, rfl⟩
  obtain ⟨D1, p1, p2, p3⟩ := h1.sel L1 (fun v hv => by rw [hL1]; exact hv)
  obtain ⟨D2, q1, q2, q3⟩ := h2.sel (.slice none 0 0 :: L2) (fun v hv => List.mem_cons_of_mem _ (by rw [hL2]; exact hv))
  have hres : Lib.equalFuncD (eqD w) D1 D2 = true := by
    obtain ⟨es, hD, hap, hkeys⟩ := p1.entries keyedS
    unfold Lib.equalFuncD
    have l1 : A1.length = m1.length := by have := congrArg List.length H1.keys; simpa [keysA, keysM] using this
    have l2 : A2.length = m2.length := by have := congrArg List.length H2.keys; simpa [keysA, keysM] using this
    rw [decide_eq_true (show Maps.size D1 = Maps.size D2 by rw [p3, q3, l1, l2, hlen]), Bool.true_and, List.all_eq_true]
    intro p hp
    have hp2 : p ∈ es := by rw [hD] at hp; exact hp
    obtain ⟨s, v, e1, e2, e3⟩ := entry_of hD hap hkeys p2 hp2
    obtain ⟨u, cs, a1, a2, a3, -⟩ := H1.look (n := s) (by rw [← H1.keys]; exact (lookA_some e2).1)
    obtain rfl : v = u := Option.some.inj (e2.symm.trans a1)
    have hs2 : s ∈ keysM m2 := by
      by_cases hn : s ∈ keysM m2
      · exact hn
      · have := lookM_none hn
        rw [← hlook, a2] at this
        cases this
    obtain ⟨u2, cs2, c1, c2, c3, -⟩ := H2.look hs2
    obtain rfl : cs = cs2 := Option.some.inj (by rw [← a2, hlook, c2])
    obtain ⟨d1, d2⟩ := q2.2 (.string s)
    have hm2 : mvOf A2 (.string s) = some u2 := c1
    rw [hm2] at d1 d2
    unfold Lib.goodD
    rw [e1, d1, e3, d2 .nil]
    show (true && eqD w (.held v) (.held u2)) = true
    rw [Bool.true_and]
    exact eqD_true ⟨cs, a3, c3⟩
  have := AnyEq.maps_EqualFunc eqLays keyedS (Rsel L1) (Rsel (.slice none 0 0 :: L2)) (eqD w) 11 #[] b1 b2 A1.length A2.length D1 D2 w (enters_of Tryz.func11 (by kernel_rfl) rfl) p1 q1 (.slice none 0 0) (fun w => by kernel_rfl) (.held (.slice none 0 0)) [] (Rsel_in (by simp)) (fun W x y xd yd xp yp hW hx hy => by
      obtain ⟨hx1, hx2⟩ := Rsel_some hx
      obtain ⟨hy1, hy2⟩ := Rsel_some hy
      injection hx2 with hx2 _
      injection hy2 with hy2 _
      subst hx2 hy2
      obtain ⟨c, hcv, hck⟩ := H1.val o1 (by rw [← hL1]; exact hx1)
      have hbW := below_of hW
      refine (turns1_any x y (eqD w (.held x) (.held y)) W ?_).mono (fun e w' ⟨q, hb⟩ => ⟨q, grown_of hb⟩)
      rcases List.mem_cons.1 hy1 with rfl | hy1
      · have he : eqD w (.held x) (.held (.slice none 0 0)) = false := by
          refine eqD_false ?_
          rintro ⟨cs, -, ⟨b, o, k, q, -⟩⟩
          cases q
        rw [he]
        obtain ⟨b, o, k, rfl, -⟩ := hcv
        exact eq_nil b o _ k W hck.1 hck.2.1
      · obtain ⟨d, hdv, hdk⟩ := H2.val o2 (by rw [← hL2]; exact hy1)
        exact eq_cols hbW hcv hdv hck hdk)
  refine this.mono ?_
  rintro e w' ⟨rfl, hb⟩
  exact ⟨by rw [hres], below_of hb⟩
end Go.Proofs.YtfifbnopgpffkaaGreatDoor.Pl

namespace Go.Proofs.YtfifbnopgpffkaaGreatDoor.Pl
open Go.RowKit Go.Maps Go.Shelf
open Fw (By FJob Flw ba strV encL zeroJ)

theorem CheckOK.one {f : Flw} {o o' : List Nat} {m m' : CM} (h : CheckOK f o m) (h' : CheckOK f o' m') : o = o' ∧ m = m' := by
  have e : o = o' := Option.some.inj (h.2.1.symm.trans h'.2.1)
  subst e
  exact ⟨rfl, Option.some.inj (h.2.2.symm.trans h'.2.2)⟩
theorem Fine.turn {f g : Flw} (h : Fine f) (hi : g.ins = f.ins) (hp : g.jobs.Perm f.jobs) (ho : g.outs = f.outs) : Fine g :=
  have hm := made_perm hi hp
  ⟨fun i hi2 => h.cols i (by rw [← hi]; exact hi2), hm.nodup_iff.2 h.nodup, fun j hj n hn => hm.mem_iff.2 (h.reads j (hp.mem_iff.1 hj) n hn), fun o ho2 => hm.mem_iff.2 (h.outs o (by rw [← ho]; exact ho2)), by rw [ho]; exact h.told⟩
/-- With its jobs in another order nothing is found, and the columns are the same. -/
theorem turn_ok {f g : Flw} {o : List Nat} {m : CM} (h : CheckOK f o m) (hi : g.ins = f.ins) (hp : g.jobs.Perm f.jobs) (ho : g.outs = f.outs) : ∃ o' m', CheckOK g o' m' ∧ (∀ n, lookM m n = lookM m' n) ∧ m.length = m'.length := by
  have hg := ordF_good h.2.1
  obtain ⟨hj, ht⟩ := hg.jobs
  obtain ⟨o', ho'⟩ := ordF_total (f := g) (jobsO f o) (fun j => (hj j).trans hp.mem_iff.symm) (by rw [hi]; exact ht)
  obtain ⟨hS, hk⟩ := run_sol h.1.nodup hg h.2.2
  obtain ⟨m', hm', hl, hk'⟩ := sol_run (hS.turn hi hp) (ordF_good ho')
  refine ⟨o', m', ⟨h.1.turn hi hp ho, ho', hm'⟩, fun n => (hl n).symm, ?_⟩
  have e1 := hk.length_eq
  have e2 := hk'.length_eq
  have e3 := (made_perm hi hp).length_eq
  simp only [keysM, List.length_map] at e1 e2
  omega
def rotF (f : Flw) (k : Nat) : Flw := ⟨f.ins, f.jobs.drop k ++ f.jobs.take k, f.outs⟩
theorem rot_perm (f : Flw) (k : Nat) : (rotF f k).jobs.Perm f.jobs := by
  show (f.jobs.drop k ++ f.jobs.take k).Perm f.jobs
  have := List.perm_append_comm (l₁ := f.jobs.drop k) (l₂ := f.jobs.take k)
  rwa [List.take_append_drop] at this
theorem rot_len (f : Flw) (k : Nat) : (rotF f k).jobs.length = f.jobs.length := (rot_perm f k).length_eq
theorem rot_ok {f : Flw} (h : Fw.FlwOK f) (k : Nat) : Fw.FlwOK (rotF f k) := ⟨h.ins, fun a ha => h.jobs a ((rot_perm f k).mem_iff.1 ha), h.outs, h.il, by rw [rot_len]; exact h.jl, h.ol⟩
theorem flat_len15 (F : Nat → List Value) : ∀ (I : List Nat), (∀ x ∈ I, (F x).length = 15) → (I.flatMap F).length = I.length * 15
  | [], _ => rfl
  | a :: r, h => by
    rw [List.flatMap_cons, List.length_append, h a (by simp), flat_len15 F r (fun x hx => h x (by simp [hx])), List.length_cons]
    omega
theorem flat_at15 (F : Nat → List Value) : ∀ (I : List Nat), (∀ x ∈ I, (F x).length = 15) → ∀ (p : Nat) (hp : p < I.length) (r : Nat), r < 15 → (I.flatMap F)[p * 15 + r]? = (F I[p])[r]?
  | [], _, p, hp, _, _ => absurd hp (by simp)
  | a :: l, h, 0, hp, r, hr => by
    rw [List.flatMap_cons, Nat.zero_mul, Nat.zero_add, List.getElem?_append_left (by rw [h a (by simp)]; exact hr)]
    rfl
  | a :: l, h, p + 1, hp, r, hr => by
    have ha := h a (by simp)
    rw [List.flatMap_cons, List.getElem?_append_right (by rw [ha]; omega), ha, show (p + 1) * 15 + r - 15 = p * 15 + r by omega, flat_at15 F l (fun x hx => h x (by simp [hx])) p (by simpa using hp) r hr]
    rfl
/-- A job's cells. -/
structure JC (w : World) (b : Nat) (l : List FJob) (j : Nat) (xs : List Value) : Prop where
  len : xs.length = 15
  one : ∀ u ∈ xs, u.oneCell' = true
  at_ : w.rangeAt b (j * 15) xs
  job : ∃ a vo vi vc, l[j]? = some a ∧ xs = Fw.jobV a vo vi vc ∧ Fw.StrsR w vo a.outs ∧ Fw.StrsR w vi a.ins ∧ Fw.StrsR w vc a.cols
theorem jobs_cells {w : World} {b n : Nat} {l : List FJob} (h : ∀ j, j < n → Fw.JobCellsAt l j w b (j * 15)) : ∃ F : Nat → List Value, ∀ j, j < n → JC w b l j (F j) := by
  have ex : ∀ j, j < n → ∃ xs, JC w b l j xs := fun j hj => by
    obtain ⟨a, vo, vi, vc, h1, h2, h3, h4, h5⟩ := h j hj
    refine ⟨Fw.jobV a vo vi vc, rfl, fun u hu => ?_, fun i u hu => h2 i u hu, a, vo, vi, vc, h1, rfl, h3, h4, h5⟩
    have := jobV_one h3 h4 h5
    rw [Array.all_eq_true] at this
    obtain ⟨i, hi, rfl⟩ := List.mem_iff_getElem.1 hu
    exact this i (by simpa using hi)
  classical
  exact ⟨fun j => if hj : j < n then Classical.choose (ex j hj) else [], fun j hj => by simp only [dif_pos hj]; exact Classical.choose_spec (ex j hj)⟩
theorem part_cells {w : World} {b n s m : Nat} {l : List FJob} {F : Nat → List Value} (h : ∀ j, j < n → JC w b l j (F j)) (hs : s + m ≤ n) : ((List.range' s m).flatMap F).length = m * 15 ∧ w.rangeAt b (s * 15) ((List.range' s m).flatMap F) ∧ ∀ u ∈ (List.range' s m).flatMap F, u.oneCell' = true := by
  have hlen : ∀ x ∈ List.range' s m, (F x).length = 15 := fun x hx => (h x (by have := List.mem_range'_1.1 hx; omega)).len
  have hl := flat_len15 F _ hlen
  rw [List.length_range'] at hl
  refine ⟨hl, fun j v hv => ?_, fun u hu => ?_⟩
  · have hj : j < m * 15 := by rw [← hl]; exact (List.getElem?_eq_some_iff.1 hv).1
    have hp : j / 15 < (List.range' s m).length := by rw [List.length_range']; omega
    have e := flat_at15 F _ hlen (j / 15) hp (j % 15) (Nat.mod_lt _ (by decide))
    rw [show j / 15 * 15 + j % 15 = j by omega, hv] at e
    have e2 : (List.range' s m)[j / 15] = s + j / 15 := by simp
    rw [e2] at e
    have := (h (s + j / 15) (by rw [List.length_range'] at hp; omega)).at_ (j % 15) v e.symm
    rw [show (s + j / 15) * 15 + j % 15 = s * 15 + j by omega] at this
    exact this
  · obtain ⟨x, hx, hu2⟩ := List.mem_flatMap.1 hu
    exact (h x (by have := List.mem_range'_1.1 hx; omega)).one u hu2
theorem rot_at {f : Flw} {k p : Nat} (hk : k ≤ f.jobs.length) (hp : p < f.jobs.length) : ∃ (h : p < (List.range' k (f.jobs.length - k) ++ List.range' 0 k).length), (List.range' k (f.jobs.length - k) ++ List.range' 0 k)[p] < f.jobs.length ∧ (rotF f k).jobs[p]? = f.jobs[(List.range' k (f.jobs.length - k) ++ List.range' 0 k)[p]]? := by
  have hl : p < (List.range' k (f.jobs.length - k) ++ List.range' 0 k).length := by simp; omega
  refine ⟨hl, ?_⟩
  by_cases h : p < f.jobs.length - k
  · have e : (List.range' k (f.jobs.length - k) ++ List.range' 0 k)[p] = k + p := by
      rw [List.getElem_append_left (by simpa using h)]; simp
    rw [e]
    refine ⟨by omega, ?_⟩
    show (f.jobs.drop k ++ f.jobs.take k)[p]? = _
    rw [List.getElem?_append_left (by simpa using h), List.getElem?_drop]
  · have e : (List.range' k (f.jobs.length - k) ++ List.range' 0 k)[p] = p - (f.jobs.length - k) := by
      rw [List.getElem_append_right (by simpa using h)]; simp
    rw [e]
    refine ⟨by omega, ?_⟩
    show (f.jobs.drop k ++ f.jobs.take k)[p]? = _
    rw [List.getElem?_append_right (by simpa using h), List.length_drop, List.getElem?_take, if_pos (by omega)]
/-- The flow with its jobs in another order, in memory. -/
theorem rot_flow {w w' : World} {B b c k : Nat} {f : Flw} {vi vo gv : Value} {F : Nat → List Value} (hF : ∀ j, j < f.jobs.length → JC w b f.jobs j (F j)) (hk : k < f.jobs.length) (hin : Fw.RowR w vi f.ins.length 3 (Fw.InAt f.ins)) (hout : Fw.RowR w vo f.outs.length 3 (Fw.OutAt f.outs)) (hb : Below w.heap.size w w')
    (hg : w'.ownsRow B 43 15 gv f.jobs.length ((List.range' k (f.jobs.length - k)).flatMap F ++ (List.range' 0 k).flatMap F)) : Fw.FlowRd w' (rotF f k) vi gv vo := by
  refine ⟨hin.below hb fun _ _ _ hh hl => hh.below hb hl, ?_, hout.below hb fun _ _ _ hh hl => hh.below hb hl⟩
  rw [rot_len]
  refine Fw.RowR.of hg fun b' hc p hp => ?_
  obtain ⟨hl, h1, h2⟩ := rot_at (Nat.le_of_lt hk) hp
  obtain ⟨a, vo', vi', vc', j1, j2, j3, j4, j5⟩ := (hF _ h1).job
  refine ⟨a, vo', vi', vc', h2.trans j1, fun i u hu => ?_, j3.below hb, j4.below hb, j5.below hb⟩
  have hi : i < 15 := (List.getElem?_eq_some_iff.1 hu).1
  have hlen : ∀ x ∈ List.range' k (f.jobs.length - k) ++ List.range' 0 k, (F x).length = 15 := fun x hx => by
    refine (hF x ?_).len
    rcases List.mem_append.1 hx with hx | hx
    · have := List.mem_range'_1.1 hx; omega
    · have := List.mem_range'_1.1 hx; omega
  have e := flat_at15 F _ hlen p hl i hi
  rw [List.flatMap_append, j2, hu] at e
  exact hc (p * 15 + i) u (by omega) e
end Go.Proofs.YtfifbnopgpffkaaGreatDoor.Pl

namespace Go.Proofs.YtfifbnopgpffkaaGreatDoor.Pl
open Go.RowKit Go.Maps Go.Shelf
open Fw (By FJob Flw ba strV encL zeroJ)

set_option maxHeartbeats 400000 in
theorem more1_any (at_ : Int) (x y : ByteArray) (vc : Value) (C : Nat) (r : Bool) (w : World) (hC : w.cell? ⟨C, 0, none⟩ = some (.string y)) (hr : (x.toList == y.toList) = r) : Calls Tryz.prog 34 #[.agg #[.int .i64 at_, .string x, vc], .pointer (some ⟨C, 0, none⟩)] w fun e w' => e = .returned (.bool r) ∧ Below w.heap.size w w' := by
  have hl := World.block_lt_of_cell? w _ hC
  have hC2 : (w.alloc (.cells #[.int .i64 at_, .string x, vc] 57)).cell? ⟨C, 0, none⟩ = some (.string y) := by rw [World.cell?_alloc_lt _ _ ⟨C, 0, none⟩ hl]; exact hC
  clear hC
  go_enter Tryz.func34, Tryz.ntmps34
  go_wp2
  go_ret
  exact ⟨rfl, below_box _ _⟩
set_option maxRecDepth 100000 in
set_option maxHeartbeats 800000 in
theorem idx_more1 (vi : Value) (l : List Fw.FIn) (nm : By) (C : Nat) (w : World) (h : Fw.RowR w vi l.length 3 (Fw.InAt l)) (h16 : l.length ≤ 100) (hC : w.cell? ⟨C, 0, none⟩ = some (.string (ba nm))) :
    Calls Tryz.prog 51 #[vi, .func (.func 34) #[] #[.pointer (some ⟨C, 0, none⟩)]] w fun e w' => ∃ r : Int, e = .returned (.int .i64 r) ∧ foundI r (l.any fun i => i.name == nm) ∧ Below w.heap.size w w' := by
  obtain ⟨ia, ic, rfl⟩ := row_slice h
  obtain ⟨n, hn⟩ : ∃ n, l.length = n := ⟨_, rfl⟩
  have HN := Hid.mk hn
  have HR := Hid.mk h
  have HC := Hid.mk hC
  rw [hn] at h16 ⊢
  clear hn h hC
  go_enter Tryz.func51, Tryz.ntmps51
  go_wp2
  go_loopw [8] (fun i wr => ∃ k : Nat, k ≤ n ∧ i = .int .i64 k ∧ (l.take k).any (fun i => i.name == nm) = false ∧ Below w.heap.size w wr) (fun i _ => n - (intOf i).toNat)
  case atStart => exact ⟨0, Nat.zero_le _, rfl, rfl, Below.refl _ _⟩
  case round =>
    obtain ⟨k, hk, rfl, hal, hnx⟩ := hrel
    have HA := Hid.mk hal
    clear hal
    by_cases hlt : k < n
    · have hk2 : k < l.length := by have := HN.out; omega
      rcases HR.out with ⟨-, e0⟩ | ⟨b, c', e0, hcap, hb, hcell⟩
      · rw [e0] at hk2; exact absurd hk2 (by simp)
      simp only [Value.slice.injEq] at e0
      obtain ⟨rfl, -, rfl⟩ := e0
      obtain ⟨a, v, ha, d0, d1, d2, -⟩ := hcell k hk2
      have e0 := (hnx.cell (p := ⟨b, k * 3, none⟩) hb).trans d0
      have e1 := (hnx.cell (p := ⟨b, k * 3 + 1, none⟩) hb).trans d1
      have e2 := (hnx.cell (p := ⟨b, k * 3 + 2, none⟩) hb).trans d2
      obtain ⟨_, ha2⟩ := List.getElem?_eq_some_iff.1 ha
      have hl := World.block_lt_of_cell? w _ HC.out
      have HQ := Hid.mk (more1_any (a.at_ : Nat) (ba a.name) (ba nm) v C (a.name == nm) wr ((hnx.cell (p := ⟨C, 0, none⟩) hl).trans HC.out) (ba_eq _ _))
      have HX : Hid (∀ p, (a.name == nm) = p → (fun i : Fw.FIn => i.name == nm) l[k] = p) := Hid.mk (fun p hp => by rw [ha2]; exact hp)
      generalize ba a.name = x at *
      have HNX := Hid.mk hnx
      clear hnx hcell d0 d1 d2 ha ha2
      cases hp : (a.name == nm)
      all_goals have HP := Hid.mk (HX.out _ hp)
      all_goals rw [hp] at HQ
      all_goals clear hp HX
      · go_wp2_with (go_at_call 34; refine HQ.out.mono ?_; rintro e w2 ⟨rfl, hb2⟩; have HB2 := Hid.mk (HNX.out.trans (hb2.mono HNX.out.size)); clear hb2)
        go_roundw
        case rel => exact ⟨k + 1, by omega, by go_num, any_step hk2 HA.out HP.out, HB2.out⟩
        case measure => simp [intOf]; omega
      · go_wp2_with (go_at_call 34; refine HQ.out.mono ?_; rintro e w2 ⟨rfl, hb2⟩; have HB2 := Hid.mk (HNX.out.trans (hb2.mono HNX.out.size)); clear hb2)
        go_ret
        exact ⟨k, rfl, ⟨by omega, by omega, by rw [any_hit hk2 HP.out]; simp⟩, HB2.out⟩
    · go_wp2
      go_ret
      exact ⟨-1, rfl, ⟨by omega, by omega, by have := HA.out; rw [List.take_of_length_le (by have := HN.out; omega)] at this; rw [this]; rfl⟩, hnx⟩
set_option maxHeartbeats 800000 in
theorem has_more1 (vi : Value) (l : List Fw.FIn) (nm : By) (C : Nat) (w : World) (h : Fw.RowR w vi l.length 3 (Fw.InAt l)) (h16 : l.length ≤ 100) (hC : w.cell? ⟨C, 0, none⟩ = some (.string (ba nm))) :
    Calls Tryz.prog 33 #[vi, .func (.func 34) #[] #[.pointer (some ⟨C, 0, none⟩)]] w fun e w' => e = .returned (.bool (l.any fun i => i.name == nm)) ∧ Below w.heap.size w w' := by
  have HQ := Hid.mk (idx_more1 vi l nm C w h h16 hC)
  clear h hC
  go_enter Tryz.func33, Tryz.ntmps33
  go_wp2_with (go_at_call 51; refine HQ.out.mono ?_; rintro e w2 ⟨r, rfl, hf, hb2⟩)
  go_ret
  exact ⟨ret_bool hf.2.2, hb2⟩
set_option maxRecDepth 100000 in
set_option maxHeartbeats 800000 in
theorem more2_any (JL : List Value) (na : Option Addr) (nc : Nat) (outs : List By) (nm : By) (C : Nat) (w : World) (h2 : JL[2]? = some (.slice na outs.length nc)) (hlen : JL.length = 15) (ho : Fw.StrsR w (.slice na outs.length nc) outs) (hol : outs.length ≤ 100000) (hC : w.cell? ⟨C, 0, none⟩ = some (.string (ba nm))) :
    Calls Tryz.prog 36 #[.agg JL.toArray, .pointer (some ⟨C, 0, none⟩)] w fun e w' => e = .returned (.bool (outs.contains nm)) ∧ Below w.heap.size w w' := by
  obtain ⟨w1, hw1⟩ : ∃ x, w.alloc (.cells JL.toArray 43) = x := ⟨_, rfl⟩
  have hB1 : Below w.heap.size w w1 := by rw [← hw1]; exact below_box _ _
  have hX : Fw.Box w1 w.heap.size JL := by rw [← hw1]; exact Fw.Box.new w _ _ _ rfl
  have c1 := hX.cell 2 h2
  have c2 := cell_below hC hB1
  have HQ := Hid.mk (has_strs (ho.below hB1) hol nm)
  have HB := Hid.mk hB1
  have hsz : JL.toArray.size = 15 := by simpa using hlen
  generalize outs.length = n at *
  generalize ba nm = x at *
  generalize outs.contains nm = r at *
  clear hC hB1 hX ho h2
  go_enter Tryz.func36, Tryz.ntmps36
  go_wp2_with (go_at_call 29; refine HQ.out.mono ?_; rintro e w2 ⟨rfl, h2⟩; obtain rfl : w1 = w2 := h2.symm; clear h2)
  go_ret
  exact ⟨rfl, HB.out⟩
set_option maxRecDepth 100000 in
set_option maxHeartbeats 1600000 in
theorem idx_more2 (f : Flw) (vi vj vo : Value) (nm : By) (C : Nat) (w : World) (h : Fw.FlowRd w f vi vj vo) (hf : Fw.FlwOK f) (hC : w.cell? ⟨C, 0, none⟩ = some (.string (ba nm))) :
    Calls Tryz.prog 52 #[vj, .func (.func 36) #[] #[.pointer (some ⟨C, 0, none⟩)]] w fun e w' => ∃ r : Int, e = .returned (.int .i64 r) ∧ foundI r (f.jobs.any fun j => j.outs.contains nm) ∧ Below w.heap.size w w' := by
  obtain ⟨ja, jc, rfl⟩ := row_slice h.jobs
  obtain ⟨n, hn⟩ : ∃ n, f.jobs.length = n := ⟨_, rfl⟩
  have HN := Hid.mk hn
  have h16 : n ≤ 16 := by rw [← hn]; exact hf.jl
  rw [hn] at h ⊢
  have HH := Hid.mk (And.intro h hf)
  have HC := Hid.mk hC
  clear hn h hf hC
  go_enter Tryz.func52, Tryz.ntmps52
  go_wp2
  go_loopw [8] (fun i wr => ∃ k : Nat, k ≤ n ∧ i = .int .i64 k ∧ (f.jobs.take k).any (fun j => j.outs.contains nm) = false ∧ Below w.heap.size w wr) (fun i _ => n - (intOf i).toNat)
  case atStart => exact ⟨0, Nat.zero_le _, rfl, rfl, Below.refl _ _⟩
  case round =>
    obtain ⟨k, hk, rfl, hal, hnx⟩ := hrel
    have HA := Hid.mk hal
    clear hal
    by_cases hlt : k < n
    · have hk2 : k < f.jobs.length := by have := HN.out; omega
      obtain ⟨b, c, e0, hcap, hb, ao, ai, ac, hra0, ho, hi3, hc3⟩ := job_at HH.out.1 hk2
      have hra : wr.rangeAt b (k * 15) (Fw.jobV f.jobs[k] ao ai ac) := fun j u hj => (hnx.cell (p := ⟨b, k * 15 + j, none⟩) hb).trans (hra0 j u hj)
      clear hra0
      simp only [Value.slice.injEq] at e0
      obtain ⟨rfl, -, rfl⟩ := e0
      have hone := jobV_one ho hi3 hc3
      have hol := (HH.out.2.jobs _ (List.getElem_mem hk2)).ol
      obtain ⟨na, nc, rfl⟩ := strs_slice ho
      obtain ⟨JL, hJL⟩ : ∃ JL, Fw.jobV f.jobs[k] (.slice na f.jobs[k].outs.length nc) ai ac = JL := ⟨_, rfl⟩
      have hJ2 : JL[2]? = some (.slice na f.jobs[k].outs.length nc) := by rw [← hJL]; rfl
      have hJl : JL.length = 15 := by rw [← hJL]; rfl
      rw [hJL] at hra hone
      have HQ := Hid.mk (more2_any JL na nc f.jobs[k].outs nm C wr hJ2 hJl (ho.below hnx) (by omega) (cell_below HC.out hnx))
      obtain ⟨w3, hw3, hb3, hx3, hs3, hinf, hth⟩ := job_copy wr JL hJl hone
      have HRA := Hid.mk hra
      have HIN := Hid.mk hinf
      have HNX := Hid.mk hnx
      clear hra hone hinf hth hw3 hx3 hb3 ho hi3 hc3 hJL hJ2 hs3 hnx
      cases hp : f.jobs[k].outs.contains nm
      all_goals have HP := Hid.mk hp
      all_goals rw [hp] at HQ
      all_goals clear hp
      · go_wp2_with (first | (refine wpList_load_mid rfl 43 _ rfl b (k * 15) rfl JL _ HRA.out Tryz.underlying43 rfl HIN.out ?_) | (go_at_call 36; refine HQ.out.mono ?_; rintro e w2 ⟨rfl, hb2⟩; have HB2 := Hid.mk (HNX.out.trans (hb2.mono HNX.out.size)); clear hb2))
        go_roundw
        case rel => exact ⟨k + 1, by omega, by go_num, any_step hk2 HA.out HP.out, HB2.out⟩
        case measure => simp [intOf]; omega
      · go_wp2_with (first | (refine wpList_load_mid rfl 43 _ rfl b (k * 15) rfl JL _ HRA.out Tryz.underlying43 rfl HIN.out ?_) | (go_at_call 36; refine HQ.out.mono ?_; rintro e w2 ⟨rfl, hb2⟩; have HB2 := Hid.mk (HNX.out.trans (hb2.mono HNX.out.size)); clear hb2))
        go_ret
        exact ⟨k, rfl, ⟨by omega, by omega, by rw [any_hit hk2 HP.out]; simp⟩, HB2.out⟩
    · go_wp2
      go_ret
      exact ⟨-1, rfl, ⟨by omega, by omega, by have := HA.out; rw [List.take_of_length_le (by have := HN.out; omega)] at this; rw [this]; rfl⟩, hnx⟩
set_option maxHeartbeats 800000 in
theorem has_more2 (f : Flw) (vi vj vo : Value) (nm : By) (C : Nat) (w : World) (h : Fw.FlowRd w f vi vj vo) (hf : Fw.FlwOK f) (hC : w.cell? ⟨C, 0, none⟩ = some (.string (ba nm))) :
    Calls Tryz.prog 35 #[vj, .func (.func 36) #[] #[.pointer (some ⟨C, 0, none⟩)]] w fun e w' => e = .returned (.bool (f.jobs.any fun j => j.outs.contains nm)) ∧ Below w.heap.size w w' := by
  have HQ := Hid.mk (idx_more2 f vi vj vo nm C w h hf hC)
  clear h hC
  go_enter Tryz.func35, Tryz.ntmps35
  go_wp2_with (go_at_call 52; refine HQ.out.mono ?_; rintro e w2 ⟨r, rfl, hf, hb2⟩)
  go_ret
  exact ⟨ret_bool hf.2.2, hb2⟩
end Go.Proofs.YtfifbnopgpffkaaGreatDoor.Pl

namespace Go.Proofs.YtfifbnopgpffkaaGreatDoor.Pl
open Go.RowKit Go.Maps Go.Shelf
open Fw (By FJob Flw ba strV encL zeroJ)

/-- One job more, that reads the first input, and its flow. -/
def newJ (a nm : By) : FJob := ⟨0, 6, [nm], [a], [], [], ([], 0, 0, []), ([], 0, 0, []), 0⟩
def moreF (f : Flw) (a nm : By) : Flw := ⟨f.ins, newJ a nm :: f.jobs, f.outs⟩
theorem more_made (f : Flw) (a nm : By) : (madeL (moreF f a nm)).Perm (nm :: madeL f) := by
  show (f.ins.map (·.name) ++ nm :: f.jobs.flatMap (·.outs)).Perm _
  exact List.perm_middle
theorem Fine.more {f : Flw} {i0 : Fw.FIn} {nm : By} (h : Fine f) (hi : i0 ∈ f.ins) (hno : nm ∉ madeL f) : Fine (moreF f i0.name nm) := by
  have hm := more_made f i0.name nm
  refine ⟨h.cols, hm.nodup_iff.2 (List.nodup_cons.2 ⟨hno, h.nodup⟩), fun j hj n hn => hm.mem_iff.2 ?_, fun o ho => hm.mem_iff.2 (List.mem_cons_of_mem _ (h.outs o ho)), h.told⟩
  rcases List.mem_cons.1 hj with rfl | hj
  · obtain rfl : n = i0.name := by simpa [newJ] using hn
    exact List.mem_cons_of_mem _ (List.mem_append_left _ (List.mem_map.2 ⟨i0, hi, rfl⟩))
  · exact List.mem_cons_of_mem _ (h.reads j hj n hn)
/-- With one job more nothing is found; what was made has the columns that it had. -/
theorem more_ok {f : Flw} {i0 : Fw.FIn} {nm : By} {o : List Nat} {m : CM} (h : CheckOK f o m) (hi : i0 ∈ f.ins) (hno : nm ∉ madeL f) : ∃ m', CheckOK (moreF f i0.name nm) (0 :: o.map (· + 1)) m' ∧ lookM m' nm = some (clsOf i0.cols) ∧ (∀ n ∈ keysM m, lookM m' n = lookM m n) ∧ m'.length = m.length + 1 := by
  have hg := ordF_good h.2.1
  obtain ⟨hS, hk⟩ := run_sol h.1.nodup hg h.2.2
  have hmem : i0.name ∈ f.ins.map (·.name) := List.mem_map.2 ⟨i0, hi, rfl⟩
  have hne : nm ≠ i0.name := by rintro rfl; exact hno (List.mem_append_left _ hmem)
  have hrd : ∀ n ∈ (newJ i0.name nm).ins, n ∈ f.ins.map (·.name) := fun n hn => by
    obtain rfl : n = i0.name := by simpa [newJ] using hn
    exact hmem
  have ho' := ordF_more (f := f) (g := moreF f i0.name nm) (nj := newJ i0.name nm) (nm := nm) rfl rfl hno rfl h.1.reads hrd
  rw [h.2.1] at ho'
  have hS' := hS.more (g := moreF f i0.name nm) (nj := newJ i0.name nm) (nm := nm) (c := clsOf i0.cols) rfl rfl hno rfl h.1.reads (by show [(lookM m i0.name).getD []] = _; rw [hS.ins i0 hi]; rfl) (by simpa [newJ] using hne) (by unfold colsE bodyE; simp [newJ]) (by unfold colsC; simp [newJ])
  obtain ⟨m', hm', hl, hk'⟩ := sol_run hS' (ordF_good ho')
  refine ⟨m', ⟨h.1.more hi hno, ho', hm'⟩, by rw [hl, if_pos rfl], fun n hn => by rw [hl, if_neg]; rintro rfl; exact hno (hk.mem_iff.1 hn), ?_⟩
  have e1 := hk.length_eq
  have e2 := hk'.length_eq
  have e3 := (more_made f i0.name nm).length_eq
  simp only [keysM, List.length_map, List.length_cons] at e1 e2 e3
  omega
theorem more_fok {f : Flw} (h : Fw.FlwOK f) {a nm : By} (hl : f.jobs.length < 16) (ha : a.length ≤ 1000) (hn : nm.length ≤ 1000) : Fw.FlwOK (moreF f a nm) := by
  refine ⟨h.ins, fun j hj => ?_, h.outs, h.il, ?_, h.ol⟩
  · rcases List.mem_cons.1 hj with rfl | hj
    · refine ⟨by simp [newJ], by simp [newJ], by simp [newJ], by simp [newJ], by simpa [newJ] using ha, by simp [newJ], by simpa [newJ] using hn, by simp [newJ, Fw.AgOK], by simp [newJ, Fw.AgOK], by simp [newJ], by simp [newJ], by simp [newJ, Fw.JobFm]⟩
    · exact h.jobs j hj
  · show f.jobs.length + 1 ≤ 16
    omega
theorem more_flow {w w' : World} {B b : Nat} {f : Flw} {a nm : By} {vi vo gv ov iv : Value} {F : Nat → List Value} (hF : ∀ j, j < f.jobs.length → JC w b f.jobs j (F j)) (hin : Fw.RowR w vi f.ins.length 3 (Fw.InAt f.ins)) (hout : Fw.RowR w vo f.outs.length 3 (Fw.OutAt f.outs)) (hb : Below w.heap.size w w')
    (hov : Fw.StrsR w' ov [nm]) (hiv : Fw.StrsR w' iv [a]) (hg : w'.ownsRow B 43 15 gv (f.jobs.length + 1) (Fw.jobV (newJ a nm) ov iv (.slice none 0 0) ++ (List.range' 0 f.jobs.length).flatMap F)) : Fw.FlowRd w' (moreF f a nm) vi gv vo := by
  refine ⟨hin.below hb fun _ _ _ hh hl => hh.below hb hl, ?_, hout.below hb fun _ _ _ hh hl => hh.below hb hl⟩
  show Fw.RowR w' gv (f.jobs.length + 1) 15 (Fw.JobCellsAt (newJ a nm :: f.jobs))
  refine Fw.RowR.of hg fun b' hc p hp => ?_
  cases p with
  | zero =>
    refine ⟨newJ a nm, ov, iv, .slice none 0 0, rfl, fun i u hu => ?_, hov, hiv, Or.inl ⟨rfl, rfl⟩⟩
    have hi : i < 15 := (List.getElem?_eq_some_iff.1 hu).1
    refine hc (0 * 15 + i) u (by omega) ?_
    rw [Nat.zero_mul, Nat.zero_add, List.getElem?_append_left (by exact hi)]
    exact hu
  | succ p =>
    have hp2 : p < f.jobs.length := by omega
    obtain ⟨j, vo', vi', vc', j1, j2, j3, j4, j5⟩ := (hF p hp2).job
    refine ⟨j, vo', vi', vc', by rw [List.getElem?_cons_succ]; exact j1, fun i u hu => ?_, j3.below hb, j4.below hb, j5.below hb⟩
    have hi : i < 15 := (List.getElem?_eq_some_iff.1 hu).1
    have hlen : ∀ x ∈ List.range' 0 f.jobs.length, (F x).length = 15 := fun x hx => (hF x (by have := List.mem_range'_1.1 hx; omega)).len
    have e := flat_at15 F _ hlen p (by rw [List.length_range']; exact hp2) i hi
    rw [List.getElem_range', show 0 + 1 * p = p by omega, j2, hu] at e
    refine hc ((p + 1) * 15 + i) u (by omega) ?_
    rw [List.getElem?_append_right (by show 15 ≤ _; omega), show (p + 1) * 15 + i - (Fw.jobV (newJ a nm) ov iv (.slice none 0 0)).length = p * 15 + i by show (p + 1) * 15 + i - 15 = _; omega]
    exact e
end Go.Proofs.YtfifbnopgpffkaaGreatDoor.Pl

