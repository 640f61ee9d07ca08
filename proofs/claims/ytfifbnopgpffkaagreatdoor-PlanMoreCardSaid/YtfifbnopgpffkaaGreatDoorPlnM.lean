import Derived.Test.YtfifbnopgpffkaaGreatDoorPlnL
set_option linter.unusedSimpArgs false
set_option linter.unusedVariables false
namespace Go.Proofs.YtfifbnopgpffkaaGreatDoor.Pl
open Go.RowKit
open Fw (By FJob Flw ba strV encL zeroJ)

theorem colsIs_of {w : World} {v : Value} {l : List (By × Int)} (h : Fw.ColsR w v l) (hs : ∀ x ∈ l, x.1.length ≤ 1000) : ColsIs w v (clsOf l) := by
  have hsz : ∀ x ∈ clsOf l, x.1.size ≤ maxLen := by
    intro x hx
    obtain ⟨y, hy, rfl⟩ := List.mem_map.1 hx
    exact Nat.le_trans (hs y hy) (by decide)
  rcases h with ⟨rfl, rfl⟩ | ⟨b, o, c, rfl, h2, h3, h4⟩
  · exact ⟨none, 0, rfl, Nat.le_refl _, hsz, Or.inl rfl⟩
  · refine ⟨some ⟨b, o, none⟩, c, by simp [clsOf], by simpa [clsOf] using h2, hsz, Or.inr ⟨b, o, rfl, h3, fun j hj => ?_⟩⟩
    have hj2 : j < l.length := by simpa [clsOf] using hj
    have := h4 j hj2
    simpa [clsOf] using this
theorem fine_iff (f : Flw) : Fine f ↔ (∀ i ∈ f.ins, rightColsB (clsOf i.cols) = true) ∧ (madeL f).Nodup ∧ Reads f :=
  ⟨fun h => ⟨h.cols, h.nodup, h.reads, h.outs, h.told⟩, fun ⟨a, b, c, d, e⟩ => ⟨a, b, c, d, e⟩⟩
set_option maxRecDepth 100000 in
set_option maxHeartbeats 3200000 in
theorem wrong_any (f : Flw) (vi vj vo : Value) (w : World) (h : Fw.FlowRd w f vi vj vo) (hf : Fw.FlwOK f) :
    Calls Tryz.prog 20 #[.agg #[vi, vj, vo]] w fun e w' => ErrR (Fine f) w e w' := by
  obtain ⟨ia, ic, rfl⟩ := row_slice h.ins
  obtain ⟨ja, jc, rfl⟩ := row_slice h.jobs
  obtain ⟨oa, oc, rfl⟩ := row_slice h.outs
  obtain ⟨I, hI⟩ : ∃ I, f.ins.length = I := ⟨_, rfl⟩
  have hI16 : I ≤ 16 := by rw [← hI]; exact hf.il
  generalize f.jobs.length = J at *
  generalize f.outs.length = O at *
  rw [hI] at h ⊢
  obtain ⟨w1, hw1⟩ : ∃ x, w.alloc (.cells #[.slice ia I ic, .slice ja J jc, .slice oa O oc] 27) = x := ⟨_, rfl⟩
  have hB1 : Below w.heap.size w w1 := by rw [← hw1]; exact below_box _ _
  have hF1 : FBox w1 w.heap.size (.slice ia I ic) (.slice ja J jc) (.slice oa O oc) := by rw [← hw1]; exact FBox.new _ _ _ _ _
  have HB1 := Hid.mk hB1
  have HF1 := Hid.mk hF1
  have HH := Hid.mk (And.intro (h.below hB1) hf)
  have HI := Hid.mk hI
  have g1 := hF1.1
  have HAT : Hid (∀ (n : Int) (pl : Int) V, Calls Tryz.prog 24 #[.int .i64 n, .int .i64 pl] V fun e w' => ∃ p, e = .returned (.iface 82 (.pointer (some ⟨p, 0, none⟩))) ∧ AtV w' (.iface 82 (.pointer (some ⟨p, 0, none⟩))) n ∧ Below V.heap.size V w') := Hid.mk fun n pl V => at_any n pl V
  clear h hf hI hB1 hF1
  go_enter Tryz.func20, Tryz.ntmps20
  go_wp2
  go_loopw [10] (fun i wr => ∃ k : Nat, k ≤ I ∧ i = .int .i64 k ∧ (∀ i ∈ f.ins.take k, rightColsB (clsOf i.cols) = true) ∧ Below w1.heap.size w1 wr) (fun i _ => I - (intOf i).toNat)
  case atStart => exact ⟨0, Nat.zero_le _, rfl, by simp, Below.refl _ _⟩
  case round =>
    obtain ⟨k, hk, rfl, hal, hnx⟩ := hrel
    have HA := Hid.mk hal
    have HN := Hid.mk hnx
    clear hal
    by_cases hlt : k < I
    · have hk2 : k < f.ins.length := by rw [HI.out]; exact hlt
      obtain ⟨b, c, e0, hcap, hb, v, d0, d1, d2, hcr⟩ := in_at (HH.out.1.below hnx) hk2
      simp only [Value.slice.injEq] at e0
      obtain ⟨rfl, -, rfl⟩ := e0
      have hin := HH.out.2.ins _ (List.getElem_mem hk2)
      have HRC : Hid (∀ V, Below wr.heap.size wr V → Calls Tryz.prog 41 #[v] V fun e w' => e = .returned (.bool (rightColsB (clsOf f.ins[k].cols))) ∧ Below V.heap.size V w') := Hid.mk fun V hV => rightCols_any v _ V (colsIs_of (hcr.below hV) (fun x hx => Nat.le_trans (hin.2.2 x hx).1 (by decide)))
      have HYES : Hid (rightColsB (clsOf f.ins[k].cols) = true → ∀ i ∈ f.ins.take (k + 1), rightColsB (clsOf i.cols) = true) := Hid.mk (fun hy => all_snoc hk2 HA.out hy)
      have HNOT : Hid (rightColsB (clsOf f.ins[k].cols) = false → ¬ Fine f) := Hid.mk (fun hy hF => by have := hF.cols _ (List.getElem_mem hk2); rw [hy] at this; cases this)
      obtain ⟨ca, cc, rfl⟩ := colsR_slice hcr
      clear hcr
      generalize f.ins[k].at_ = pl at *
      generalize ba f.ins[k].name = nm at *
      clear hnx
      cases hr : rightColsB (clsOf f.ins[k].cols) with
      | true =>
        rw [hr] at HRC
        have HY := Hid.mk (HYES.out hr)
        clear hr HYES HNOT hin
        generalize f.ins[k].cols.length = cn at *
        go_wp2_with (first | (go_at_call 41; refine (HRC.out _ (below_box _ _)).mono ?_; rintro e2 w2 ⟨rfl, hb2⟩; have HB2 := Hid.mk (bel_then HN.out (bel_then (below_box _ _) hb2)); clear hb2))
        go_roundw
        case rel => exact ⟨k + 1, by omega, by go_num, HY.out, HB2.out⟩
        case measure => simp [intOf]; omega
      | false =>
        rw [hr] at HRC
        have HNO := Hid.mk (HNOT.out hr)
        clear hr HYES HNOT hin
        generalize f.ins[k].cols.length = cn at *
        go_wp2_with (first | (go_at_call 41; refine (HRC.out _ (below_box _ _)).mono ?_; rintro e2 w2 ⟨rfl, hb2⟩; have q0 : w2.cell? ⟨wr.heap.size, 0, none⟩ = some (.int .i64 (pl : Nat)) := cell_below (World.cell?_alloc_at _ _ _ _ rfl) hb2; have HB2 := Hid.mk (bel_then HN.out (bel_then (below_box _ _) hb2)); clear hb2) | (go_at_call 24; refine (HAT.out _ _ _).mono ?_; rintro e3 w3 ⟨p, rfl, ha3, hb3⟩; have HA3 := Hid.mk ha3; have HB3 := Hid.mk hb3; clear ha3 hb3))
        go_ret
        exact ⟨HB1.out.trans ((bel_then HB2.out HB3.out).mono HB1.out.size), Or.inr ⟨HNO.out, _, 3, rfl, by decide, HA3.out, by simp⟩⟩
    · obtain rfl : k = I := by omega
      have HAI : Hid (∀ i ∈ f.ins, rightColsB (clsOf i.cols) = true) := Hid.mk (by have := HA.out; rwa [List.take_of_length_le (by have := HI.out; omega)] at this)
      have g0 := HF1.out.below hnx
      have g1 := g0.1
      have g2 := g0.2.1
      have g3 := g0.2.2
      have HMK := Hid.mk (makings_any f _ _ _ wr (HH.out.1.below hnx) HH.out.2)
      clear hnx g0 HA
      go_wp2_with (first | (go_at_call 42; fail))
      refine HMK.out.mono ?_
      rintro e4 w4 ⟨hb4, ⟨hno, ev, rfl, hat⟩ | ⟨hnd, mv, rfl, hmv⟩⟩
      · have HNO : Hid (¬ Fine f) := Hid.mk (fun hF => hno hF.nodup)
        have HB4 := Hid.mk hb4
        have HA4 := Hid.mk hat
        obtain ⟨p, pl, rfl, -, -⟩ := hat
        clear hno hb4
        go_wp2
        go_ret
        exact ⟨HB1.out.trans ((bel_then HN.out HB4.out).mono HB1.out.size), Or.inr ⟨HNO.out, _, 9, rfl, by decide, HA4.out, by simp⟩⟩
      · have HND := Hid.mk hnd
        have hb14 := bel_then HN.out hb4
        have HB4 := Hid.mk hb14
        have HWR := Hid.mk (wreads_any f _ _ _ mv w4 (HH.out.1.below hb14) HH.out.2 (Fw.StrsR.of hmv))
        have g0 := HF1.out.below hb14
        have g1 := g0.1
        have g2 := g0.2.1
        have g3 := g0.2.2
        obtain ⟨ma, mc, rfl⟩ := own_slice (show w4.ownsRow _ _ _ _ _ _ from hmv)
        clear hnd hmv hb4 hb14 g0
        go_wp2_with (first | (go_at_call 43; fail))
        refine HWR.out.mono ?_
        rintro e5 w5 ⟨hb5, ⟨hok, rfl⟩ | ⟨hno, ev, n, rfl, hn0, hat, hne⟩⟩
        · have HOK : Hid (Fine f) := Hid.mk ((fine_iff f).2 ⟨HAI.out, HND.out, hok⟩)
          have HB5 := Hid.mk hb5
          clear hok hb5
          go_wp2
          go_ret
          exact ⟨HB1.out.trans ((bel_then HB4.out HB5.out).mono HB1.out.size), Or.inl ⟨HOK.out, rfl⟩⟩
        · have HNO : Hid (¬ Fine f) := Hid.mk (fun hF => hno ((fine_iff f).1 hF).2.2)
          have HB5 := Hid.mk hb5
          have HA5 := Hid.mk (And.intro hat (And.intro hn0 hne))
          obtain ⟨p, pl, rfl, -, -⟩ := hat
          clear hno hb5 hn0 hne
          go_wp2
          go_ret
          exact ⟨HB1.out.trans ((bel_then HB4.out HB5.out).mono HB1.out.size), Or.inr ⟨HNO.out, _, n, rfl, HA5.out.2.1, HA5.out.1, HA5.out.2.2⟩⟩
end Go.Proofs.YtfifbnopgpffkaaGreatDoor.Pl
