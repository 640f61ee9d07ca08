import Derived.Test.YtoncleppenggaaaGreatDoorPlnQ
import Derived.Test.YtoncleppenggaaaGreatDoorShelfQ
set_option linter.unusedSimpArgs false
set_option linter.unusedVariables false
namespace Go.Proofs.YtoncleppenggaaaGreatDoor.Pl
open Go.RowKit Go.Maps
open Fw (By FJob Flw ba strV encL zeroJ)

/-- The fact's two texts, and flows. -/
def ps1 : By := [105, 110, 32, 112, 58, 32, 105, 100, 32, 105, 110, 116, 59, 32, 106, 111, 98, 32, 97, 32, 61, 32, 100, 105, 115, 116, 105, 110, 99, 116, 32, 98, 59, 32, 106, 111, 98, 32, 98, 32, 61, 32, 100, 105, 115, 116, 105, 110, 99, 116, 32, 112, 59, 32, 111, 117, 116, 32, 114, 32, 61, 32, 97, 59]
def ps2 : By := [106, 111, 98, 32, 97, 32, 61, 32, 100, 105, 115, 116, 105, 110, 99, 116, 32, 98, 59, 32, 106, 111, 98, 32, 98, 32, 61, 32, 100, 105, 115, 116, 105, 110, 99, 116, 32, 97, 59]
def pf1 : Flw := ⟨[⟨0, [112], [([105, 100], 1)]⟩], [⟨14, 6, [[97]], [[98]], [], [], Fw.agg0, Fw.agg0, 0⟩, ⟨34, 6, [[98]], [[112]], [], [], Fw.agg0, Fw.agg0, 0⟩], [⟨54, [114], [97]⟩]⟩
def pf2 : Flw := ⟨[], [⟨0, 6, [[97]], [[98]], [], [], Fw.agg0, Fw.agg0, 0⟩, ⟨20, 6, [[98]], [[97]], [], [], Fw.agg0, Fw.agg0, 0⟩], []⟩
set_option maxRecDepth 100000 in
theorem parse1 : Fw.parseF ps1 = .ok pf1 := by kernel_rfl
set_option maxRecDepth 100000 in
theorem parse2 : Fw.parseF ps2 = .ok pf2 := by kernel_rfl
theorem ord1 : ordF pf1 = some [1, 0] := by kernel_rfl
theorem ord2 : ordF pf2 = none := by kernel_rfl
theorem fine2 : Fine pf2 := by
  refine ⟨by simp [pf2], by simp [madeL, pf2], ?_, by simp [pf2], by simp [pf2]⟩
  intro j hj n hn
  simp [pf2] at hj
  rcases hj with rfl | rfl <;> simp at hn <;> subst hn <;> simp [madeL, pf2]
set_option maxRecDepth 100000 in
set_option maxHeartbeats 1600000 in
theorem planned_any (w : World) (hE : Fw.FEnv w) (hgl : GErr w) :
    Calls Tryz.prog 5 #[] w fun e w' => e = .returned (.bool true) ∧ Below w.heap.size w w' := by
  have HP := Hid.mk (Fw.parse_any ps1 w (by decide) hE)
  have hsv : (ba ps1) = ⟨#[105, 110, 32, 112, 58, 32, 105, 100, 32, 105, 110, 116, 59, 32, 106, 111, 98, 32, 97, 32, 61, 32, 100, 105, 115, 116, 105, 110, 99, 116, 32, 98, 59, 32, 106, 111, 98, 32, 98, 32, 61, 32, 100, 105, 115, 116, 105, 110, 99, 116, 32, 112, 59, 32, 111, 117, 116, 32, 114, 32, 61, 32, 97, 59]⟩ := rfl
  have hsv2 : (ba ps2) = ⟨#[106, 111, 98, 32, 97, 32, 61, 32, 100, 105, 115, 116, 105, 110, 99, 116, 32, 98, 59, 32, 106, 111, 98, 32, 98, 32, 61, 32, 100, 105, 115, 116, 105, 110, 99, 116, 32, 97, 59]⟩ := rfl
  have HE := Hid.mk (And.intro hE hgl)
  rw [hsv] at HP
  clear hE hgl
  go_enter Tryz.func5, Tryz.ntmps5
  go_wp2_with (first | (go_at_call 17; fail))
  refine HP.out.mono ?_
  rintro e1 w1 ⟨⟨f, vi, vj, vo, hpf, rfl, hfl⟩ | ⟨er, b, hpf, rfl, -⟩, hb1⟩
  · rw [parse1] at hpf
    obtain rfl : pf1 = f := by injection hpf
    have HFO := Hid.mk hfl
    obtain ⟨ia, ic, rfl⟩ := row_slice (Fw.FlowRd.of hfl).ins
    obtain ⟨ja, jc, rfl⟩ := row_slice (Fw.FlowRd.of hfl).jobs
    obtain ⟨oa, oc, rfl⟩ := row_slice (Fw.FlowRd.of hfl).outs
    have hfok := Fw.parse_ok (l := ps1) (by decide) parse1
    obtain ⟨w2, hw2⟩ : ∃ x, w1.alloc (.cells #[.slice ia pf1.ins.length ic, .slice ja pf1.jobs.length jc, .slice oa pf1.outs.length oc] 27) = x := ⟨_, rfl⟩
    have hb12 : Below w1.heap.size w1 w2 := by rw [← hw2]; exact below_box _ _
    have hX2 : Fw.Box w2 w1.heap.size [.slice ia pf1.ins.length ic, .slice ja pf1.jobs.length jc, .slice oa pf1.outs.length oc] := by rw [← hw2]; exact Fw.Box.new w1 _ _ _ rfl
    have g1 := hX2.cell 0 (v := .slice ia pf1.ins.length ic) rfl
    have g2 := hX2.cell 1 (v := .slice ja pf1.jobs.length jc) rfl
    have g3 := hX2.cell 2 (v := .slice oa pf1.outs.length oc) rfl
    have HX2 := Hid.mk hX2
    have HB2 := Hid.mk (bel_then hb1 hb12)
    have HOR := Hid.mk (order_any pf1 _ _ _ w2 (Fw.FlowRd.of (flowO_below HFO.out hb12)) hfok)
    have HL1 : Hid (w.heap.size ≤ w1.heap.size) := Hid.mk hb1.size
    generalize pf1.ins.length = n1 at *
    generalize pf1.jobs.length = n2 at *
    generalize pf1.outs.length = n3 at *
    clear hfl hpf hb1 hb12 hX2 hfok HFO
    go_wp2_with (first | (go_at_call 13; fail))
    refine HOR.out.mono ?_
    rintro e3 w3 ⟨hb3, ⟨hno, -⟩ | ⟨o, tv, hor, rfl, htv⟩⟩
    · rw [ord1] at hno; cases hno
    · rw [ord1] at hor
      obtain rfl : [1, 0] = o := Option.some.inj hor
      obtain ⟨tg, tc, rfl, htB, htl, hti⟩ := ints_of htv (by decide)
      have hEQ : ∀ V, Below w3.heap.size w3 V → Calls Tryz.prog 18 #[.slice (some ⟨tg, 0, none⟩) 2 tc, .slice (some ⟨w3.heap.size, 0, none⟩) 2 2] (w3.alloc (.cells #[.int .i64 1, .int .i64 0] 3)) fun e w' => e = .returned (.bool true) ∧ ∃ q, w' = (w3.alloc (.cells #[.int .i64 1, .int .i64 0] 3)).drewN q := fun V hV => by
        have := Tryz.slices_Equal_int tg 0 2 tc w3.heap.size 0 2 2 [1, 0] [1, 0] (w3.alloc (.cells #[.int .i64 1, .int .i64 0] 3)) (by decide) (by decide) (by decide) (by decide) (fun j hj => by
          rw [World.cell?_alloc_lt _ _ ⟨tg, 0 + j, none⟩ htl, hti j (by simpa using hj)]
          rcases (show j = 0 ∨ j = 1 by simp at hj; omega) with rfl | rfl <;> rfl) (fun j hj => by
          rw [World.cell?_alloc_at _ _ _ _ rfl]
          rcases (show j = 0 ∨ j = 1 by simp at hj; omega) with rfl | rfl <;> rfl)
        exact this
      have HEQ := Hid.mk (hEQ w3 (Below.refl _ _))
      have HB3 := Hid.mk (bel_then HB2.out hb3)
      have HX3 := Hid.mk (HX2.out.below hb3)
      clear hEQ hti htv hor hb3 htl
      go_wp2_with (first | (go_at_call 18; fail))
      refine HEQ.out.mono ?_
      rintro e4 w4 ⟨rfl, qq, hw4⟩
      have hb34 : Below w3.heap.size w3 w4 := by rw [hw4]; exact below_drewN (below_box _ _) _
      have HB4 := Hid.mk (bel_then HB3.out hb34)
      have HX4 := Hid.mk (HX3.out.below hb34)
      have HP2 := Hid.mk (Fw.parse_any ps2 w4 (by decide) (fenv_below HE.out.1 HB4.out))
      rw [hsv2] at HP2
      clear hw4 hb34
      go_wp2_with (first | (go_at_call 17; fail))
      refine HP2.out.mono ?_
      rintro e5 w5 ⟨⟨f, vi, vj, vo, hpf, rfl, hfl⟩ | ⟨er, b, hpf, rfl, -⟩, hb5⟩
      · rw [parse2] at hpf
        obtain rfl : pf2 = f := by injection hpf
        have HFO := Hid.mk hfl
        obtain ⟨ia2, ic2, rfl⟩ := row_slice (Fw.FlowRd.of hfl).ins
        obtain ⟨ja2, jc2, rfl⟩ := row_slice (Fw.FlowRd.of hfl).jobs
        obtain ⟨oa2, oc2, rfl⟩ := row_slice (Fw.FlowRd.of hfl).outs
        have hX5 := HX4.out.below hb5
        have k0 := hX5.cell 0 (v := .slice ia n1 ic) rfl
        have k1 := hX5.cell 1 (v := .slice ja n2 jc) rfl
        have k2 := hX5.cell 2 (v := .slice oa n3 oc) rfl
        have f0 := hX5.fz 0
        have f1 := hX5.fz 1
        have f2 := hX5.fz 2
        obtain ⟨w6, hw6⟩ : ∃ x, ((w5.setCell ⟨w1.heap.size, 0, none⟩ (.slice ia2 pf2.ins.length ic2)).setCell ⟨w1.heap.size, 1, none⟩ (.slice ja2 pf2.jobs.length jc2)).setCell ⟨w1.heap.size, 2, none⟩ (.slice oa2 pf2.outs.length oc2) = x := ⟨_, rfl⟩
        have hX6 : Fw.Box w6 w1.heap.size [.slice ia2 pf2.ins.length ic2, .slice ja2 pf2.jobs.length jc2, .slice oa2 pf2.outs.length oc2] := by rw [← hw6]; exact ((hX5.set 0 _).set 1 _).set 2 _
        have hlt4 : w1.heap.size < w4.heap.size := HX4.out.lt
        have hFL6 : Fw.FlowO w6 w4.heap.size pf2.ins (.slice ia2 pf2.ins.length ic2) pf2.jobs (.slice ja2 pf2.jobs.length jc2) pf2.outs (.slice oa2 pf2.outs.length oc2) := by
          rw [← hw6]
          exact ((HFO.out.imp (fun e z n v xs h => ownsRow_setCell_below h (a := ⟨w1.heap.size, 0, none⟩) hlt4 _)).imp (fun e z n v xs h => ownsRow_setCell_below h (a := ⟨w1.heap.size, 1, none⟩) hlt4 _)).imp (fun e z n v xs h => ownsRow_setCell_below h (a := ⟨w1.heap.size, 2, none⟩) hlt4 _)
        have hb6 : Below w.heap.size w w6 := by
          rw [← hw6]
          exact (((bel_then HB4.out hb5).setCell (p := ⟨w1.heap.size, 0, none⟩) HL1.out _).setCell (p := ⟨w1.heap.size, 1, none⟩) HL1.out _).setCell (p := ⟨w1.heap.size, 2, none⟩) HL1.out _
        have HB6 := Hid.mk hb6
        have HCK := Hid.mk (check_any pf2 _ _ _ w6 (Fw.FlowRd.of hFL6) (Fw.parse_ok (l := ps2) (by decide) parse2) (cell_below HE.out.2 hb6))
        have g4 := hX6.cell 0 (v := .slice ia2 pf2.ins.length ic2) rfl
        have g5 := hX6.cell 1 (v := .slice ja2 pf2.jobs.length jc2) rfl
        have g6 := hX6.cell 2 (v := .slice oa2 pf2.outs.length oc2) rfl
        generalize pf2.ins.length = m1 at *
        generalize pf2.jobs.length = m2 at *
        generalize pf2.outs.length = m3 at *
        clear hfl hpf hb5 hX5 hX6 hFL6 hb6 HFO
        go_wp2_with (first | (go_at_call 7; fail))
        refine HCK.out.mono ?_
        rintro e7 w7 ⟨hb7, ⟨o, m, A, b, hok, -⟩ | ⟨-, ev, n, rfl, hn0, hat, h11⟩⟩
        · have := hok.2.1
          rw [ord2] at this
          cases this
        · obtain rfl : n = 11 := h11 fine2 ord2
          obtain ⟨p, pl, rfl, hp0, -⟩ := hat
          have HTL := Hid.mk (Dk.tellA_any 11 p w7 hp0 (cell_below HE.out.2 (bel_then HB6.out hb7)))
          have HB7 := Hid.mk (bel_then HB6.out hb7)
          clear hb7 hn0 hp0 h11
          go_wp2_with (first | (go_at_call 19; refine HTL.out.mono ?_; rintro e8 w8 ⟨rfl, hb8⟩; have HB8 := Hid.mk (bel_then HB7.out hb8); clear hb8))
          go_ret
          exact ⟨rfl, HB8.out⟩
      · rw [parse2] at hpf; cases hpf
  · rw [parse1] at hpf; cases hpf
end Go.Proofs.YtoncleppenggaaaGreatDoor.Pl

