import Derived.Test.YtoncleppenggaaaGreatDoorPlnO
import Derived.Test.YtoncleppenggaaaGreatDoorTelH
set_option linter.unusedSimpArgs false
set_option linter.unusedVariables false
namespace Go.Proofs.YtoncleppenggaaaGreatDoor.Pl
open Go.RowKit Go.Maps
open Fw (By FJob Flw ba strV encL zeroJ)

/-- A flow of which nothing is found. -/
def CheckOK (f : Flw) (o : List Nat) (m : CM) : Prop := Fine f ∧ ordF f = some o ∧ colsO colsE colsC f o = some m
/-- What Check comes to. -/
def CheckR (f : Flw) (w : World) (e : Ending) (w' : World) : Prop := Below w.heap.size w w' ∧
  ((∃ o m A b, CheckOK f o m ∧ e = .returned (.tuple #[.map (some b), .nilIface]) ∧ w.heap.size ≤ b ∧ MapC w' b A ∧ Holds2 w' A m ∧ ∀ c ∈ m, CsOK c.2) ∨
   ((¬ ∃ o m, CheckOK f o m) ∧ ∃ ev n, e = .returned (.tuple #[.map none, ev]) ∧ n ≠ 0 ∧ AtV w' ev n ∧ (Fine f → ordF f = none → n = 11)))
abbrev GErr (w : World) : Prop := w.cell? ⟨0, 0, none⟩ = some (.iface 147 (.agg #[.pointer (some ⟨10, 32, none⟩)]))
set_option maxRecDepth 100000 in
set_option maxHeartbeats 1600000 in
theorem check_any (f : Flw) (vi vj vo : Value) (w : World) (h : Fw.FlowRd w f vi vj vo) (hf : Fw.FlwOK f) (hgl : GErr w) :
    Calls Tryz.prog 7 #[.agg #[vi, vj, vo]] w fun e w' => CheckR f w e w' := by
  obtain ⟨ia, ic, rfl⟩ := row_slice h.ins
  obtain ⟨ja, jc, rfl⟩ := row_slice h.jobs
  obtain ⟨oa, oc, rfl⟩ := row_slice h.outs
  generalize f.ins.length = I at *
  generalize f.jobs.length = J at *
  generalize f.outs.length = O at *
  obtain ⟨w1, hw1⟩ : ∃ x, w.alloc (.cells #[.slice ia I ic, .slice ja J jc, .slice oa O oc] 27) = x := ⟨_, rfl⟩
  have hB1 : Below w.heap.size w w1 := by rw [← hw1]; exact below_box _ _
  have hF1 : FBox w1 w.heap.size (.slice ia I ic) (.slice ja J jc) (.slice oa O oc) := by rw [← hw1]; exact FBox.new _ _ _ _ _
  have HB1 := Hid.mk hB1
  have HF1 := Hid.mk hF1
  have HH := Hid.mk (And.intro (h.below hB1) (And.intro hf (cell_below hgl hB1)))
  have HW := Hid.mk (wrong_any f _ _ _ w1 (h.below hB1) hf)
  have g1 := hF1.1
  have g2 := hF1.2.1
  have g3 := hF1.2.2
  clear h hf hgl hB1 hF1
  go_enter Tryz.func7, Tryz.ntmps7
  go_wp2_with (first | (go_at_call 20; fail))
  refine HW.out.mono ?_
  rintro e2 w2 ⟨hb2, ⟨hok, rfl⟩ | ⟨hno, ev, n, rfl, hn0, hat, -⟩⟩
  · have HFI := Hid.mk hok
    have HB2 := Hid.mk hb2
    have HOR := Hid.mk (order_any f _ _ _ w2 (HH.out.1.below hb2) HH.out.2.1)
    have k0 := HF1.out.below hb2
    have k1 := k0.1
    have k2 := k0.2.1
    have k3 := k0.2.2
    clear hok hb2 k0
    go_wp2_with (first | (go_at_call 13; fail))
    refine HOR.out.mono ?_
    rintro e3 w3 ⟨hb3, ⟨hno, ev, rfl, hat⟩ | ⟨o, tv, hor, rfl, htv⟩⟩
    · have HNO : Hid ((¬ ∃ o m, CheckOK f o m) ∧ ordF f = none) := Hid.mk ⟨fun ⟨o, m, hc⟩ => (by rw [hc.2.1] at hno; cases hno), hno⟩
      have HA := Hid.mk hat
      have HB3 := Hid.mk (bel_then HB2.out hb3)
      obtain ⟨p, pl, rfl, -, -⟩ := hat
      clear hno hb3
      go_wp2
      refine bodyPost_ret (v := .tuple #[.map none, .iface 82 (.pointer (some ⟨p, 0, none⟩))]) (by simp [results, Tryz.results7, go_sem]) rfl ?_
      exact ⟨HB1.out.trans (HB3.out.mono HB1.out.size), Or.inr ⟨HNO.out.1, _, 11, rfl, by decide, HA.out, fun _ _ => rfl⟩⟩
    · have HG := Hid.mk (And.intro (ordF_good hor) hor)
      have hb13 := bel_then HB2.out hb3
      have HB3 := Hid.mk hb13
      have HCL := Hid.mk (columns_any f o _ _ _ tv w3 (HH.out.1.below hb13) HH.out.2.1 HFI.out (ordF_good hor) (IntsV.of htv) (cell_below HH.out.2.2 hb13))
      have k0 := HF1.out.below hb13
      have k4 := k0.1
      have k5 := k0.2.1
      have k6 := k0.2.2
      obtain ⟨ta, tc, rfl⟩ := own_slice htv
      clear hor hb3 hb13 htv k0
      go_wp2_with (first | (go_at_call 21; fail))
      refine HCL.out.mono ?_
      rintro e4 w4 ⟨hb4, ⟨hno, ev, n, rfl, hn0, hat⟩ | ⟨m, A, b, hm, rfl, hbb, hMC, hH2, hok⟩⟩
      · have HNO : Hid ((¬ ∃ o m, CheckOK f o m) ∧ n ≠ 0) := Hid.mk ⟨fun ⟨o', m, hc⟩ => (by
          obtain rfl : o = o' := Option.some.inj (HG.out.2.symm.trans hc.2.1)
          rw [hc.2.2] at hno; cases hno), hn0⟩
        have HA := Hid.mk hat
        have HB4 := Hid.mk (bel_then HB3.out hb4)
        obtain ⟨p, pl, rfl, -, -⟩ := hat
        clear hno hb4 hn0
        go_wp2
        refine bodyPost_ret (v := .tuple #[.map none, .iface 82 (.pointer (some ⟨p, 0, none⟩))]) (by simp [results, Tryz.results7, go_sem]) rfl ?_
        exact ⟨HB1.out.trans (HB4.out.mono HB1.out.size), Or.inr ⟨HNO.out.1, _, n, rfl, HNO.out.2, HA.out, fun _ q => by rw [HG.out.2] at q; cases q⟩⟩
      · have HOK : Hid (CheckOK f o m ∧ w3.heap.size ≤ b ∧ MapC w4 b A ∧ Holds2 w4 A m ∧ ∀ c ∈ m, CsOK c.2) := Hid.mk ⟨⟨HFI.out, HG.out.2, hm⟩, hbb, hMC, hH2, hok⟩
        have HB4 := Hid.mk (bel_then HB3.out hb4)
        clear hm hbb hMC hH2 hok hb4
        go_wp2
        refine bodyPost_ret (v := .tuple #[.map (some b), .nilIface]) (by simp [results, Tryz.results7, go_sem]) rfl ?_
        exact ⟨HB1.out.trans (HB4.out.mono HB1.out.size), Or.inl ⟨o, m, A, b, HOK.out.1, rfl, Nat.le_trans (Nat.le_trans HB1.out.size HB3.out.size) HOK.out.2.1, HOK.out.2.2.1, HOK.out.2.2.2.1, HOK.out.2.2.2.2⟩⟩
  · have HNO : Hid ((¬ ∃ o m, CheckOK f o m) ∧ n ≠ 0 ∧ ¬ Fine f) := Hid.mk ⟨fun ⟨o, m, hc⟩ => hno hc.1, hn0, hno⟩
    have HA := Hid.mk hat
    have HB2 := Hid.mk hb2
    obtain ⟨p, pl, rfl, -, -⟩ := hat
    clear hno hb2 hn0
    go_wp2
    refine bodyPost_ret (v := .tuple #[.map none, .iface 82 (.pointer (some ⟨p, 0, none⟩))]) (by simp [results, Tryz.results7, go_sem]) rfl ?_
    exact ⟨HB1.out.trans (HB2.out.mono HB1.out.size), Or.inr ⟨HNO.out.1, _, n, rfl, HNO.out.2.1, HA.out, fun q _ => absurd q HNO.out.2.2⟩⟩
end Go.Proofs.YtoncleppenggaaaGreatDoor.Pl

