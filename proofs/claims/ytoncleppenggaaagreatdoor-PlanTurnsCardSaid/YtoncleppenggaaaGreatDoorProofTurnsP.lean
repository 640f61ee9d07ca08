/-
  With its jobs in another order the plan of a flow is the same: no fault is found, every name has its columns, and each job comes behind what it reads: foremankeep.PlanTurns returns true at every text and number, whatever memory and schedule, and its arguments read as they did. Its conditions: the listed package-level variables start as the program's text lays them (the tied card); nothing is narrowed besides.
-/
import Derived.Test.YtoncleppenggaaaGreatDoorPlnU
import Derived.Test.YtoncleppenggaaaGreatDoorPlnR
import Derived.Test.YtoncleppenggaaaGreatDoorRows
import Derived.Test.YtoncleppenggaaaGreatDoorFlwB
import Derived.ProofKit
import Derived.OpenShut
import Derived.Stop.LaidErr
import Derived.Lib.LaidTab
import Derived.Lib.LaidU8
import Derived.Lay
import Derived.LaidLaws
import Derived.LaidHandle
import Derived.Stop.Joined
import Derived.Deep.DeepHandedRow
import Derived.Test.YtoncleppenggaaaGreatDoorCards
import Derived.Test.YtoncleppenggaaaGreatDoorTie
import Derived.Lib.SmallJoins
import Derived.Deep.SlicePairs
import Derived.Deep.Strs
set_option linter.unusedSimpArgs false
set_option linter.unusedVariables false
namespace Go.Proofs.YtoncleppenggaaaGreatDoor.Pl
open Go.RowKit Go.Maps Go.Shelf
open Fw (By FJob Flw ba strV encL zeroJ)

theorem Holds2.below {w w' : World} {A : AM} {m : CM} (h : Holds2 w A m) (hok : ∀ c ∈ m, CsOK c.2) (hb : Below w.heap.size w w') : Holds2 w' A m := h.imp hok (fun u cs _ hv => hv.below hb)
theorem ints_take {w : World} {g oo c n : Nat} {o : List Nat} (hi : IntsAt w g oo o) (hg : g < w.heap.size) (hn : n ≤ o.length) (hc : o.length ≤ c) : IntsV w (.slice (some ⟨g, oo, none⟩) n c) (o.take n) := by
  refine Or.inr ⟨g, oo, c, by rw [List.length_take, Nat.min_eq_left hn], by rw [List.length_take]; omega, hg, fun j hj => ?_⟩
  have hj2 : j < o.length := by rw [List.length_take] at hj; omega
  rw [hi j hj2, List.getElem_take]
theorem not_twice {o : List Nat} (h : o.Nodup) (i : Nat) (hi : i < o.length) : (((o.map fun (x : Nat) => (x : Int)).take i).contains ((o[i] : Nat) : Int)) = false := by
  rw [Bool.eq_false_iff]
  intro hc
  rw [List.contains_iff_mem, ← List.map_take, List.mem_map] at hc
  obtain ⟨x, hx, e⟩ := hc
  obtain rfl : x = o[i] := by omega
  obtain ⟨q, hq, e⟩ := List.mem_iff_getElem.1 hx
  rw [List.length_take] at hq
  rw [List.getElem_take] at e
  have := (List.getElem_inj h).1 e
  omega
theorem turn8 {w4 W5 w6 w7 : World} {f : Flw} {k b n6 : Nat} {vi vo gj gv u6 : Value} {xs : List Value} {F : Nat → List Value} (h5 : w4.heap.size < W5.heap.size) (hB6 : Below w4.heap.size w4 w6) (ho6 : w6.ownsRow W5.heap.size 43 15 u6 n6 xs) (hg : w6.grownBy w7 u6.ownBlock)
    (ho7 : w7.ownsRow W5.heap.size 43 15 gv f.jobs.length ((List.range' k (f.jobs.length - k)).flatMap F ++ (List.range' 0 k).flatMap F)) (hX7 : Fw.Box w7 w4.heap.size [vi, gj, vo])
    (hF : ∀ j, j < f.jobs.length → JC w4 b f.jobs j (F j)) (hk : k < f.jobs.length) (hin : Fw.RowR w4 vi f.ins.length 3 (Fw.InAt f.ins)) (hout : Fw.RowR w4 vo f.outs.length 3 (Fw.OutAt f.outs)) :
    Fw.FlowRd (w7.setCell ⟨w4.heap.size, 1, none⟩ gv) (rotF f k) vi gv vo ∧ FBox (w7.setCell ⟨w4.heap.size, 1, none⟩ gv) w4.heap.size vi gv vo ∧ Below w4.heap.size w4 (w7.setCell ⟨w4.heap.size, 1, none⟩ gv) := by
  have hb7 : Below w4.heap.size w4 w7 := hB6.grown hg hB6.size (fun q hq => by have := (ho6.lt q hq).1; omega)
  have hb8 := hb7.setCell (p := ⟨w4.heap.size, 1, none⟩) (Nat.le_refl _) gv
  have hx := hX7.set 1 gv
  exact ⟨rot_flow (c := 0) hF hk hin hout hb8 (ownsRow_setCell_below ho7 (a := ⟨w4.heap.size, 1, none⟩) h5 gv), ⟨hx.cell 0 rfl, hx.cell 1 rfl, hx.cell 2 rfl⟩, hb8⟩
set_option maxRecDepth 100000 in
set_option maxHeartbeats 20000000 in
theorem turns_any (s : By) (by_ : Int) (w : World) (hE : Fw.FEnv w) (hgl : GErr w) (hs : (ba s).size ≤ maxLen) :
    Calls Tryz.prog 3 #[.string (ba s), .int .i64 by_] w fun e w' => e = .returned (.bool true) ∧ Below w.heap.size w w' := by
  obtain ⟨i0, hi, hz0, hz1, hz2⟩ := info_parts Fw.Tryz.infoJob
  have HPL := Hid.mk (planned_any w hE hgl)
  have HRI : Hid (∀ V, Below w.heap.size w V → Calls Tryz.prog 6 #[.string (ba s)] V fun e w' => RightR s V e w') := Hid.mk fun V hV => right_any s V (fenv_below hE hV) (cell_below hgl hV) hs
  have HE := Hid.mk (And.intro hE hgl)
  generalize ba s = x at *
  clear hE hgl hs
  go_enter Tryz.func3, Tryz.ntmps3
  go_wp2_with (first | (go_at_call 5; refine HPL.out.mono ?_; rintro e1 w1 ⟨rfl, hb1⟩; have HB1 := Hid.mk hb1; have HR1 := Hid.mk (HRI.out w1 hb1); clear hb1) | (go_at_call 6; fail))
  refine HR1.out.mono ?_
  rintro e2 w2 ⟨hb2, ⟨f, o, m, vi, vj, vo, hpf, hok, rfl, hfl, hfok⟩ | ⟨a1, n1, c1, a2, n2, c2, a3, n3, c3, rfl⟩⟩
  · obtain ⟨ia, ic, rfl⟩ := row_slice hfl.ins
    obtain ⟨ja, jc, rfl⟩ := row_slice hfl.jobs
    obtain ⟨oa, oc, rfl⟩ := row_slice hfl.outs
    obtain ⟨J, hJ⟩ : ∃ J, f.jobs.length = J := ⟨_, rfl⟩
    have hJ16 : J ≤ 16 := by rw [← hJ]; exact hfok.jl
    have HJ := Hid.mk hJ
    obtain ⟨w3, hw3⟩ : ∃ x, w2.alloc (.cells #[.slice ia f.ins.length ic, .slice ja f.jobs.length jc, .slice oa f.outs.length oc] 27) = x := ⟨_, rfl⟩
    have hb23 : Below w2.heap.size w2 w3 := by rw [← hw3]; exact below_box _ _
    have hF3 : FBox w3 w2.heap.size (.slice ia f.ins.length ic) (.slice ja f.jobs.length jc) (.slice oa f.outs.length oc) := by rw [← hw3]; exact FBox.new _ _ _ _ _
    have HF3 := Hid.mk hF3
    have HFL := Hid.mk (And.intro (hfl.below hb23) (And.intro hfok hok))
    have HB2 := Hid.mk (bel_then HB1.out hb2)
    have HB3 := Hid.mk (bel_then HB1.out (bel_then hb2 hb23))
    have g1 := hF3.1
    have g2 := hF3.2.1
    have g3 := hF3.2.2
    clear hfl hfok hok hpf hb2 hb23 hF3
    generalize f.ins.length = I at *
    generalize f.outs.length = O at *
    rw [hJ] at HF3 HFL hw3 g2 ⊢
    clear hJ
    by_cases h0 : J = 0
    · have h0I : (J : Int) = 0 := by omega
      go_wp2
      go_ret
      exact ⟨rfl, bel_then HB2.out (below_box _ _)⟩
    · have h0I : ¬ (J : Int) = 0 := by omega
      have HCK := Hid.mk (check_any f _ _ _ w3 HFL.out.1 HFL.out.2.1 (cell_below HE.out.2 HB3.out))
      go_wp2_with (first | (go_at_call 7; fail))
      refine HCK.out.mono ?_
      rintro e4 w4 ⟨hb4, ⟨o1, m1, A1, b1, hok1, rfl, -, hM1, hH1, hk1⟩ | ⟨hno, -⟩⟩
      · obtain ⟨rfl, rfl⟩ := HFL.out.2.2.one hok1
        have HM := Hid.mk (And.intro hM1 (And.intro hH1 hk1))
        have HB4 := Hid.mk (bel_then HB3.out hb4)
        have HF4 := Hid.mk (HF3.out.below hb4)
        have HPK : Hid (∀ V, Calls Tryz.prog 8 #[.int .i64 by_, .int .i64 (J : Nat)] V fun e w' => ∃ k : Nat, e = .returned (.int .i64 (k : Int)) ∧ k < J ∧ w' = V) := Hid.mk fun V => pickN by_ J V (by omega) hJ16
        have HFL4 := Hid.mk (HFL.out.1.below hb4)
        have k1 := HF4.out.1
        have k2 := HF4.out.2.1
        have k3 := HF4.out.2.2
        clear hok1 hM1 hH1 hk1 hb4 g1 g2 g3
        go_wp2_with (first | (go_at_call 8; refine (HPK.out _).mono ?_; rintro e5 w5 ⟨k, rfl, hk, h5⟩; obtain rfl : w4 = w5 := h5.symm; clear h5))
        rcases HFL4.out.jobs with ⟨-, e0⟩ | ⟨b, c', e0, hcap, hb, hcells⟩
        · have := HJ.out; omega
        rw [HJ.out] at e0 hcap hcells
        simp only [Value.slice.injEq, true_and] at e0
        obtain ⟨rfl, rfl⟩ := e0
        obtain ⟨F, hF⟩ := jobs_cells hcells
        have HFC := Hid.mk hF
        obtain ⟨l1, r1, u1⟩ := part_cells (s := k) (m := J - k) hF (by omega)
        obtain ⟨l2, r2, u2⟩ := part_cells (s := 0) (m := k) hF (by omega)
        obtain ⟨w5, hw5⟩ : ∃ y, w4.alloc (.cells #[.slice ia I ic, .slice (some ⟨b, 0, none⟩) J jc, .slice oa O oc] 27) = y := ⟨_, rfl⟩
        have hb45 : Below w4.heap.size w4 w5 := by rw [← hw5]; exact below_box _ _
        have hX5 : Fw.Box w5 w4.heap.size [.slice ia I ic, .slice (some ⟨b, 0, none⟩) J jc, .slice oa O oc] := by rw [← hw5]; exact Fw.Box.new w4 _ _ _ rfl
        have hX5d : Fw.Box w5.drew w4.heap.size [.slice ia I ic, .slice (some ⟨b, 0, none⟩) J jc, .slice oa O oc] := hX5.block rfl
        have hb4d : Below w4.heap.size w4 w5.drew := hb45.drew
        have d1 := cell_below HF4.out.2.1 hb4d
        have HD1 := Hid.mk d1
        have HX5 := Hid.mk hX5d
        have HB5 := Hid.mk hb4d
        have HCL := Hid.mk (cloneJob_in b (k * 15) (J - k) (jc - k) _ w5.drew l1 (by omega) (by have := hb4d.size; omega) (fun j u hu => (hb4d.cell (p := ⟨b, k * 15 + j, none⟩) hb).trans (r1 j u hu)) u1)
        have HR2 : Hid (∀ V, Below w4.heap.size w4 V → V.rangeAt b 0 ((List.range' 0 k).flatMap F)) := Hid.mk fun V hV j u hu => (hV.cell (p := ⟨b, 0 + j, none⟩) hb).trans (by have := r2 j u hu; rwa [Nat.zero_mul] at this)
        have HL2 := Hid.mk l2
        have HU2 := Hid.mk u2
        have s1 : (k : Int) ≤ (J : Int) := by omega
        have s2 : (J : Int) ≤ (jc : Int) := by omega
        have s3 : (0 : Int) ≤ (k : Int) := by omega
        have s4 : ¬ jc = k := by omega
        have s5 : (k : Int) ≤ (jc : Int) := by omega
        have s6 : (J : Int) - (k : Int) = ((J - k : Nat) : Int) := by omega
        have s7 : (jc : Int) - (k : Int) = ((jc - k : Nat) : Int) := by omega
        clear hF l1 r1 u1 l2 r2 u2 hb45 hX5 hX5d hb4d hcells k1 k2 k3
        go_region_law (first | (go_simp; go_at_call 9; refine HCL.out.mono ?_; rintro e6 w6 ⟨v6, rfl, ho6, hb6⟩; have d6 := cell_below HD1.out hb6; have HX6 := Hid.mk (HX5.out.below hb6); have HB56 := Hid.mk hb6.size; have HB6 := Hid.mk (bel_then HB5.out hb6); have HO6 := Hid.mk ho6; obtain ⟨a6, c6, rfl⟩ := own_slice ho6; clear ho6 hb6) | (refine step_append_own (by rfl) _ _ _ (by rfl) w5.drew.heap.size 43 i0 _ 15 208 Tryz.underlying24 hi hz0 hz1 hz2 rfl (by decide) (.slice a6 (J - k) c6) (J - k) _ (by rfl) HO6.out ⟨b, 0, none⟩ k jc _ (by rfl) HL2.out (fun j u hu => by rw [Addr.add_mid]; exact HR2.out w6 HB6.out j u hu) HU2.out (by unfold maxLen; omega) (by omega) HB56.out ?_; intro v7 w7 ho7 hg7 _; rw [show J - k + k = J by omega] at ho7; obtain ⟨a7, n7, rfl⟩ := own_slice ho7; have HO7 := Hid.mk ho7; have HG7 := Hid.mk hg7; have hX7 := HX6.out.grown hg7 (fun e => by have := (HO6.out.lt _ e).1; have := HX5.out.lt; omega); have c7 := hX7.cell 1 (v := .slice (some ⟨b, 0, none⟩) J jc) rfl; have f7 := hX7.fz 1; have HX7 := Hid.mk hX7; clear ho7 hg7 hX7))
        all_goals
          obtain ⟨hf8, hx8, hb8⟩ := turn8 (f := f) (k := k) (h5 := HX5.out.lt) HB6.out HO6.out HG7.out (by rw [HJ.out]; exact HO7.out) HX7.out (by rw [HJ.out]; exact HFC.out) (by rw [HJ.out]; exact hk) HFL4.out.ins HFL4.out.outs
          clear c7 f7 d6 d1 HX7 HO7 HG7 HO6 HB6 HX6 HX5 HD1 HB5 HCL HR2 HL2 HU2 HB56 hw5
          generalize w7.setCell ⟨w4.heap.size, 1, none⟩ (.slice a7 J n7) = w8 at *
          have HC8 := Hid.mk (check_any (rotF f k) _ _ _ w8 hf8 (rot_ok HFL.out.2.1 k) (cell_below HE.out.2 (bel_then HB4.out hb8)))
          obtain ⟨o', m', hok', hlk, hln⟩ := turn_ok (g := rotF f k) HFL.out.2.2 rfl (rot_perm f k) rfl
          have HT := Hid.mk (And.intro hok' (And.intro hlk hln))
          have HF8 := Hid.mk (And.intro hf8 hb8)
          have HX8 := Hid.mk hx8
          have q1 := hx8.1
          have q2 := hx8.2.1
          have q3 := hx8.2.2
          clear hf8 hx8 hb8 hok' hlk hln
          go_wp2_with (first | (go_at_call 7; fail))
          refine HC8.out.mono ?_
          rintro e9 w9 ⟨hb9, ⟨o2, m2, A2, b2, hok2, rfl, -, hM2, hH2, hk2⟩ | ⟨hno, -⟩⟩
          · obtain ⟨rfl, rfl⟩ := HT.out.1.one hok2
            have hb49 := bel_then HF8.out.2 hb9
            have HEQ := Hid.mk (eqMaps (HM.out.1.below hb49) hM2 (HM.out.2.1.below HM.out.2.2 hb49) hH2 HM.out.2.2 hk2 HT.out.2.1 HT.out.2.2)
            have HX9 := Hid.mk (HX8.out.below hb9)
            have HF9 := Hid.mk (And.intro (HF8.out.1.below hb9) (bel_then HB4.out hb49))
            clear hb9 hb49 hM2 hH2 hk2 hok2 q1 q2 q3
            go_wp2_with (first | (go_at_call 10; refine HEQ.out.mono ?_; rintro e10 w10 ⟨rfl, hb10⟩; have HX10 := Hid.mk (HX9.out.below hb10); have HF10 := Hid.mk (And.intro (HF9.out.1.below hb10) (bel_then HF9.out.2 hb10)); have q1 := HX10.out.1; have q2 := HX10.out.2.1; have q3 := HX10.out.2.2; have HOR := Hid.mk (order_any (rotF f k) _ _ _ w10 HF10.out.1 (rot_ok HFL.out.2.1 k)); clear hb10) | (go_at_call 13; fail))
            refine HOR.out.mono ?_
            rintro e11 w11 ⟨hb11, ⟨hno, -⟩ | ⟨o3, tv, hord, rfl, hown⟩⟩
            · have := HT.out.1.2.1; rw [hno] at this; cases this
            have hgd := ordF_good hord
            have hl3 : o3.length = J := by rw [hgd.len, rot_len, HJ.out]
            rcases IntsV.of hown with ⟨-, e0⟩ | ⟨gb, go, gc, htv, hgc, hgb, hints⟩
            · rw [e0] at hl3; exact absurd hl3.symm h0
            rw [hl3] at htv hgc
            subst htv
            have HX11 := Hid.mk (HX10.out.below hb11)
            have HF11 := Hid.mk (And.intro (HF10.out.1.below hb11) (bel_then HF10.out.2 hb11))
            have HI := Hid.mk (And.intro (show IntsAt w11 gb go o3 from hints) (And.intro hgb (And.intro hgd hl3)))
            have t2 := HX11.out.2.1
            clear hb11 hord hown hgd hl3 hints q1 q2 q3
            go_wp2
            go_loopw [13] (fun i wr => ∃ q : Nat, q ≤ J ∧ i = .int .i64 q ∧ Below w11.heap.size w11 wr) (fun i _ => J - (intOf i).toNat)
            case atStart => exact ⟨0, Nat.zero_le _, rfl, Below.refl _ _⟩
            case round =>
              obtain ⟨q, hq, rfl, hnx⟩ := hrel
              by_cases hlt : q < J
              · have hq3 : q < o3.length := by rw [HI.out.2.2.2]; exact hlt
                have hnd := hnx.drew
                have HND := Hid.mk hnd
                obtain ⟨z, hz⟩ : ∃ z, o3[q] = z := ⟨_, rfl⟩
                have hia : IntsAt wr.drew gb go o3 := HI.out.1.below hnd HI.out.2.1
                have HCN : Hid (Calls Tryz.prog 14 #[.slice (some ⟨gb, go, none⟩) q gc, .int .i64 (z : Int)] wr.drew fun e w' => e = .returned (.bool false) ∧ w' = wr.drew) := by
                  refine Hid.mk ((Tryz.slices_Contains_int gb go q gc (o3.map fun (x : Nat) => (x : Int)) z wr.drew (by rw [List.length_map]; omega) (by omega) (fun j hj => ?_)).mono ?_)
                  · rw [List.length_map] at hj
                    rw [hia j hj, List.getD_eq_getElem?_getD, List.getElem?_map, List.getElem?_eq_getElem hj]
                    rfl
                  · rintro e w' ⟨rfl, rfl⟩
                    exact ⟨by rw [← hz, not_twice HI.out.2.2.1.nodup q hq3], rfl⟩
                have HRD : Hid (Calls Tryz.prog 15 #[.agg #[.slice ia I ic, .slice a7 J n7, .slice oa O oc], .int .i64 (z : Nat), .slice (some ⟨gb, go, none⟩) q gc] wr.drew fun e w' => e = .returned (.bool true) ∧ Below wr.drew.heap.size wr.drew w') := by
                  have hr := HI.out.2.2.1.ready q hq3
                  rw [hz] at hr
                  have hzl : z < (rotF f k).jobs.length := (HI.out.2.2.1.mem z).1 (by rw [← hz]; exact List.getElem_mem hq3)
                  have := ready_any (rotF f k) _ _ _ _ (o3.take q) z wr.drew (HF11.out.1.below hnd) (rot_ok HFL.out.2.1 k) hzl (ints_take hia (by have := hnd.size; have := HI.out.2.1; omega) (Nat.le_of_lt hq3) (by rw [HI.out.2.2.2]; exact hgc)) (fun x hx => (HI.out.2.2.1.mem x).1 (List.mem_of_mem_take hx)) (by rw [List.length_take]; omega)
                  rw [hr] at this
                  exact Hid.mk this
                have hxd := HX11.out.below hnd
                have q1 := hxd.1
                have q2 := hxd.2.1
                have q3 := hxd.2.2
                have q4 : wr.drew.cell? ⟨gb, go + q, none⟩ = some (.int .i64 (z : Int)) := by rw [← hz]; exact hia q hq3
                have s1 : (q : Int) < (J : Int) := by omega
                have s2 : (q : Int) ≤ (gc : Int) := by omega
                have s3 : (0 : Int) ≤ (q : Int) := by omega
                have s8 : ¬ gc = 0 := by omega
                have s9 : q < J := hlt
                clear hnx hnd hia hxd hz hq3 t2
                go_wp2
                go_region_law (first | (go_simp; go_at_call 14; refine HCN.out.mono ?_; rintro e12 w12 ⟨rfl, rfl⟩) | (go_simp; go_at_call 15; refine HRD.out.mono ?_; rintro e13 w13 ⟨rfl, hb13⟩; have HB13 := Hid.mk (bel_then HND.out hb13); clear hb13))
                all_goals
                  clear HCN HRD q1 q2 q3 q4
                  go_wp2
                  go_roundw
                  case rel => exact ⟨q + 1, by omega, by go_num, HB13.out⟩
                  case measure => simp [intOf]; omega
              · obtain rfl : q = J := by omega
                clear t2
                go_wp2
                go_ret
                exact ⟨rfl, bel_then HF11.out.2 hnx⟩
          · exact absurd ⟨o', m', HT.out.1⟩ hno
      · exact absurd ⟨o, m, HFL.out.2.2⟩ hno
  · have HB2 := Hid.mk (bel_then HB1.out hb2)
    clear hb2
    go_wp2
    go_ret
    exact ⟨rfl, bel_then HB2.out (below_box _ _)⟩
end Go.Proofs.YtoncleppenggaaaGreatDoor.Pl

namespace Go.Proofs.YtoncleppenggaaaGreatDoor.Fw
open Go.ChangeShapes Go.WideShapes Go.ChangeAt Go.RowKit

/-- The listed variables that hold plain data. -/
abbrev laidF : List (String × DataW Unit) := [("math/bits.deBruijn32tab", Rows.laid_math_bits_deBruijn32tab), ("math/bits.deBruijn64tab", Rows.laid_math_bits_deBruijn64tab), ("internal/strconv.uint64pow10", Rows.laid_internal_strconv_uint64pow10), ("strconv.ErrRange", Rows.laid_strconv_ErrRange), ("strconv.ErrSyntax", Rows.laid_strconv_ErrSyntax), ("foreman/flow.verbs", Rows.laid_foreman_flow_verbs), ("foreman/flow.kinds", Rows.laid_foreman_flow_kinds), ("foreman/flow.marks", Rows.laid_foreman_flow_marks)]
theorem ownF : ownKnob Tryz.prog.godebug = none := by kernel_rfl
theorem starEF : "*" ++ "errors.errorString" = "*errors.errorString" := by decide
theorem rowEF (u : TypeId) (h : Tryz.prog.typeName? 3 u = some "*errors.errorString") : u = 201 :=
  typeName_ptr_named (nm := "errors.errorString") (by rw [starEF]; kernel_rfl) (by kernel_rfl) (by decide) u (by rw [starEF]; exact h)
theorem cellsStrF : Tryz.prog.cellsOf 9 = 1 := by kernel_rfl
/-- An array of texts, laid. -/
theorem strs_laid {W : World} {base : Nat} {sp : Nat → Bool} {held : Bool} {fuel n : Nat} {t : TypeId} {cs : List Value} {L : List By} {p : List MemPlace} {H : Type} {enc : TypeId × Value → H}
    (ht : Tryz.prog.underlying t = some (.array n 9)) (hct : Tryz.prog.cellsOf t = n)
    (h : DataW.trod enc Tryz.prog W base sp held fuel t cs = some (.agg (L.map fun b => .lit (.string b)), p)) : cs = L.map fun b => .string (ba b) := by
  obtain ⟨xs, m, rfl, hx, hlen, hn, hel⟩ := DataW.trod_array ht h
  simp only [Prod.mk.injEq, DataW.agg.injEq] at hx
  have hl : L.length = n := by
    have := congrArg List.length hx.1
    simp only [List.length_map] at this
    omega
  rw [hct] at hlen
  refine List.ext_getElem (by rw [List.length_map]; omega) fun i h1 h2 => ?_
  have hi : i < n := by omega
  have := hel i hi
  rw [cellsStrF, Nat.mul_one, List.getElem?_eq_getElem (by omega)] at this
  obtain ⟨s, a, b, -⟩ := DataW.trod_string Tryz.underlying9 this
  have e1 : cs[i] = .string s := by
    have q : ((cs.drop i).take 1)[0]? = some (.string s) := by rw [a]; rfl
    rw [List.getElem?_take, if_pos (by decide), List.getElem?_drop, Nat.add_zero, List.getElem?_eq_getElem h1] at q
    exact Option.some.inj q
  have e2 : (L.map fun b => (DataW.lit (.string b) : DataW H))[i]? = some (.lit (.string s.data.toList)) := by
    rw [hx.1, List.getElem?_map, List.getElem?_eq_getElem (by omega), b]
    rfl
  rw [List.getElem?_map, List.getElem?_eq_getElem (by omega)] at e2
  simp only [Option.map_some, Option.some.injEq, DataW.lit.injEq, Lit.string.injEq] at e2
  rw [e1, List.getElem_map, e2]
theorem cells_at {W : World} {g : Nat} {nm : String} {cs : Array Value} {L : List By} (hg : Tryz.prog.globalNamed nm = some g) (hv : W.var? Tryz.prog nm = some cs) (h : cs.toList = L.map fun b => .string (ba b)) (j : Nat) (hj : j < L.length) : W.cell? ⟨g, j, none⟩ = some (.string (ba L[j])) := by
  have := World.var?_cell hg hv j
  rw [this, ← Array.getElem?_toList, h, List.getElem?_map, List.getElem?_eq_getElem hj]
  rfl
theorem gMarks : Tryz.prog.globalNamed "foreman/flow.marks" = some 1 := by kernel_rfl
theorem tMarks : (Tryz.prog.globals[1]?).map (·.type) = some 138 := by kernel_rfl
theorem gVerbs : Tryz.prog.globalNamed "foreman/flow.verbs" = some 3 := by kernel_rfl
theorem tVerbs : (Tryz.prog.globals[3]?).map (·.type) = some 180 := by kernel_rfl
theorem gFKinds : Tryz.prog.globalNamed "foreman/flow.kinds" = some 2 := by kernel_rfl
theorem tFKinds : (Tryz.prog.globals[2]?).map (·.type) = some 169 := by kernel_rfl
theorem gPowF : Tryz.prog.globalNamed "internal/strconv.uint64pow10" = some 7 := by kernel_rfl
theorem tPowF : (Tryz.prog.globals[7]?).map (·.type) = some 211 := by kernel_rfl
theorem marks_lay : (Rows.laid_foreman_flow_marks : DataW Unit) = .agg (marksL.map fun b => .lit (.string b)) := rfl
theorem verbs_lay : (Rows.laid_foreman_flow_verbs : DataW Unit) = .agg (verbs0.map fun b => .lit (.string b)) := rfl
theorem kinds_lay : (Rows.laid_foreman_flow_kinds : DataW Unit) = .agg (kinds0.map fun b => .lit (.string b)) := rfl

set_option maxRecDepth 100000 in
theorem fenv_of {W : World} (hL : laidMet Tryz.prog laidF W) : FEnv W := by
  have hp : Lib.TabIs Tryz.prog W "internal/strconv.uint64pow10" .u64 Lib.pow10Tab := by
    obtain ⟨g, t, cs, fuel, p, hg, ht, hv, hd⟩ := Lib.laidMet.reads hL (n := "internal/strconv.uint64pow10") (d := Rows.laid_internal_strconv_uint64pow10) (.tail _ (.tail _ (.head _)))
    obtain rfl := Option.some.inj (gPowF.symm.trans hg)
    obtain rfl := Option.some.inj (tPowF.symm.trans ht)
    have e : (Rows.laid_internal_strconv_uint64pow10 : DataW Unit) = Lib.tabData .u64 Lib.pow10Tab := rfl
    rw [e] at hd
    have := Lib.cells_of_tab Tryz.underlying211 Tryz.underlying191 (by kernel_rfl) (by kernel_rfl) hd
    unfold Lib.TabIs
    rw [hv, ← this]
  have hv : ∀ (j : Nat) (h : j < verbs0.length), W.cell? ⟨3, j, none⟩ = some (.string (ba verbs0[j])) := by
    obtain ⟨g, t, cs, fuel, p, hg, ht, hv, hd⟩ := Lib.laidMet.reads hL (n := "foreman/flow.verbs") (d := Rows.laid_foreman_flow_verbs) (.tail _ (.tail _ (.tail _ (.tail _ (.tail _ (.head _))))))
    obtain rfl := Option.some.inj (gVerbs.symm.trans hg)
    obtain rfl := Option.some.inj (tVerbs.symm.trans ht)
    rw [verbs_lay] at hd
    exact cells_at hg hv (strs_laid Tryz.underlying180 (by kernel_rfl) hd)
  have hk : ∀ (j : Nat) (h : j < kinds0.length), W.cell? ⟨2, j, none⟩ = some (.string (ba kinds0[j])) := by
    obtain ⟨g, t, cs, fuel, p, hg, ht, hv, hd⟩ := Lib.laidMet.reads hL (n := "foreman/flow.kinds") (d := Rows.laid_foreman_flow_kinds) (.tail _ (.tail _ (.tail _ (.tail _ (.tail _ (.tail _ (.head _)))))))
    obtain rfl := Option.some.inj (gFKinds.symm.trans hg)
    obtain rfl := Option.some.inj (tFKinds.symm.trans ht)
    rw [kinds_lay] at hd
    exact cells_at hg hv (strs_laid Tryz.underlying169 (by kernel_rfl) hd)
  have hm : ∀ (j : Nat) (h : j < marksL.length), W.cell? ⟨1, j, none⟩ = some (.string (ba marksL[j])) := by
    obtain ⟨g, t, cs, fuel, p, hg, ht, hv, hd⟩ := Lib.laidMet.reads hL (n := "foreman/flow.marks") (d := Rows.laid_foreman_flow_marks) (.tail _ (.tail _ (.tail _ (.tail _ (.tail _ (.tail _ (.tail _ (.head _))))))))
    obtain rfl := Option.some.inj (gMarks.symm.trans hg)
    obtain rfl := Option.some.inj (tMarks.symm.trans ht)
    rw [marks_lay] at hd
    exact cells_at hg hv (strs_laid Tryz.underlying138 (by kernel_rfl) hd)
  obtain ⟨aR, tR, hvR, hcR, -, -⟩ := laid_sentinel (g := 6) hL.tail.tail.tail (by kernel_rfl) (by kernel_rfl) Tryz.underlying32 rowEF Tryz.underlying201 Tryz.underlying203 rfl rfl Tryz.underlying9 (by kernel_rfl) (by kernel_rfl)
  obtain ⟨aS, tS, hvS, hcS, -, -⟩ := laid_sentinel (g := 5) hL.tail.tail.tail.tail (by kernel_rfl) (by kernel_rfl) Tryz.underlying32 rowEF Tryz.underlying201 Tryz.underlying203 rfl rfl Tryz.underlying9 (by kernel_rfl) (by kernel_rfl)
  refine ⟨?_, hm, hv, hk, ⟨_, _, hvS⟩, ⟨_, _, hvR⟩, hp⟩
  intro g hg
  have lt : ∀ (g i : Nat) (v : Value), W.cell? ⟨g, i, none⟩ = some v → g < W.heap.size := fun g i v h => World.block_lt_of_cell? W ⟨g, i, none⟩ h
  simp only [flowVars, List.mem_cons, List.not_mem_nil, or_false] at hg
  rcases hg with rfl | rfl | rfl | rfl | rfl | rfl
  · exact lt _ _ _ (hm 0 (by decide))
  · exact lt _ _ _ (hv 0 (by decide))
  · exact lt _ _ _ (hk 0 (by decide))
  · exact lt _ 0 _ ((World.var?_cell (by kernel_rfl) hvS 0).trans rfl)
  · exact lt _ 0 _ ((World.var?_cell (by kernel_rfl) hvR 0).trans rfl)
  · exact lt _ 0 _ ((World.var?_cell gPowF hp 0).trans rfl)
theorem et : Tryz.prog.globalNamed "errors.errorType" = some 0 := by kernel_rfl
theorem rt : (Tryz.prog.cutTypes.find? (·.1 == "internal/reflectlite.rtype")).map (·.2) = some 147 := by kernel_rfl
theorem tsize : Tryz.prog.types.size = 244 := by kernel_rfl
theorem oneRow : ((List.range 244).filter fun t => Tryz.prog.rowNamed t [101, 114, 114, 111, 114]) = [32] := by kernel_rfl
/-- What the listed variable gives. -/
theorem handle_of {l : List (String × DataW Unit)} {W : World} (hm0 : ("errors.errorType", Rows.laid_errors_errorType) ∈ l) (h : handlesMet Tryz.prog l W) : W.cell? ⟨0, 0, none⟩ = some (.iface 147 (.agg #[.pointer (some ⟨10, 32, none⟩)])) := by
  obtain ⟨name, u, ty, e1, e2, e3, e4, e5⟩ := h _ hm0
  have en : name = [101, 114, 114, 111, 114] := (Option.some.inj e1).symm
  subst en
  obtain rfl := Option.some.inj (rt.symm.trans e2)
  have hm : ty ∈ (List.range 244).filter fun t => Tryz.prog.rowNamed t [101, 114, 114, 111, 114] := List.mem_filter.2 ⟨List.mem_range.2 (by rw [← tsize]; exact e3), e4⟩
  rw [oneRow] at hm
  obtain rfl := List.mem_singleton.1 hm
  have hh : typeHandle Tryz.prog 32 = .pointer (some ⟨10, 32, none⟩) := by kernel_rfl
  rw [hh] at e5
  simpa using World.var?_cell et e5 0
end Go.Proofs.YtoncleppenggaaaGreatDoor.Fw

namespace Go.Proofs.YtoncleppenggaaaGreatDoor
open Go.ChangeShapes Go.WideShapes Go.ChangeAt Go.RowKit Go.Joins Go.Deep

set_option maxRecDepth 100000 in
theorem contractPTurns (H : Type) (enc : TypeId × Value → H) (W : World) (base : Nat) (args : Array Value) (ds gs : List (DataW H)) (before : List MemPlace)
    (hval : ∀ (j : Nat) t v, Tryz.f3.params[j]? = some t → args[j]? = some v → Value.okWide Tryz.prog W .any base t v)
    (hW : DataW.Whole enc Tryz.prog Tryz.f3.params.toList Rows.planTurnsSpec.vars false W args.toList ds gs before) (hL : laidMetH Tryz.prog Rows.planTurnsRow.laid W) :
    Calls Tryz.prog 3 args W fun e W' => ∃ v, e = .returned v ∧ Rows.planTurnsSpec.post enc Tryz.prog Tryz.f3 false true false false W args v W' := by
  have hW' := hW
  obtain ⟨p, q, hA0, hV, rfl, hfz, hnd⟩ := hW
  have hA : DataW.TrodAll enc Tryz.prog W 0 (fun _ => true) true Tryz.f3.params.toList args.toList ds p := hA0
  rw [Tryz.params3] at hA hval
  obtain ⟨v0, v1, d0, d1, p0, p1, rfl, rfl, rfl, h0, h1⟩ := trodAll_two hA
  obtain ⟨rfl, rfl⟩ := trodVars_none hV
  have k0 := hval 0 9 v0 rfl rfl
  obtain ⟨s, rfl⟩ := okWide_string Tryz.underlying9 k0
  obtain ⟨fz, rfl⟩ := okWide_int Tryz.underlying3 (hval 1 3 v1 rfl rfl)
  obtain ⟨n0, g0⟩ := h0
  obtain ⟨n1, g1⟩ := h1
  obtain ⟨s', e1, hx1, hsl⟩ := DataW.trod_string Tryz.underlying9 g0
  obtain rfl : s = s' := by simpa [Value.cells] using e1
  have hL' : laidMet Tryz.prog Fw.laidF W ∧ handlesMet Tryz.prog [("errors.errorType", Rows.laid_errors_errorType)] W := hL
  clear hA0
  have hba : Fw.ba s.data.toList = s := by cases s; simp [Fw.ba]
  have hcall := Pl.turns_any s.data.toList fz W (Fw.fenv_of hL'.1) (Fw.handle_of (List.mem_singleton.2 rfl) hL'.2) (by rw [hba]; exact hsl)
  rw [hba] at hcall
  refine hcall.mono fun e W' ⟨he, hbl⟩ => ?_
  subst he
  refine ⟨_, rfl, _, _, _, [], p0 ++ p1, [], hW', trodAll_mk1 (shut_bool Tryz.underlying4 _), ?_, rfl, hbl.frame _, fun h => by cases h⟩
  have lo : laidOutB Tryz.prog = true := by kernel_rfl
  exact trodAll_mk2 (Below.trod lo (by kernel_rfl) (of_decide_eq_true (by kernel_rfl)) ⟨n0, g0⟩ hbl (DataW.trod_lt n0 _ _ _ g0)) (Below.trod lo (by kernel_rfl) (of_decide_eq_true (by kernel_rfl)) ⟨n1, g1⟩ hbl (DataW.trod_lt n1 _ _ _ g1))

set_option maxRecDepth 100000 in
theorem liftedPTurns (os : Os) (started : os.Started) (H : Type) (enc : TypeId × Value → H) (F : Stop.Interp) :
    ReturnsInHanded {} Tryz.checked os 3 .any ((OpenSpec.ofChange Rows.planTurnsSpec).preRow enc Tryz.prog Tryz.f3 Rows.planTurnsRow.domain false Rows.planTurnsRow.laid) (((OpenSpec.ofChange Rows.planTurnsSpec).at F).post enc Tryz.prog Tryz.f3 false true false false) := by
  refine returnsInHanded_of_row (C := Tryz.checked) (s := OpenSpec.ofChange Rows.planTurnsSpec) Fw.ownF started (by kernel_rfl) Tryz.func3
    (ChangeSpec.witness_shaped (enc := enc) (C := Tryz.checked) (os := os) (fn := Tryz.f3) (s := Rows.planTurnsSpec) (conds := Rows.planTurnsRow.domain) (apart := false) (X := fun w _ => laidMetH Tryz.prog Rows.planTurnsRow.laid w) false
      { World.laidAll Tryz.prog os Fw.laidF with heap := (World.laidAll Tryz.prog os Fw.laidF).heap.modify 0 fun
        | .cells _ t frozen => .cells #[.iface 147 (.agg #[.pointer (some ⟨10, 32, none⟩)])] t frozen
        | o => o } #[.string ⟨#[]⟩, .int .i64 0] 8 (World.laidAll_os _ _ _)
      (World.shaped_of_ZipB (by kernel_rfl) (by kernel_rfl)) (by kernel_rfl) (by kernel_rfl) (by kernel_rfl)
      (laidMetH_of_parts (laidMet_of_run' 8 (by kernel_rfl) (by kernel_rfl)) (by kernel_rfl))) ?_
  intro W base args ds gs before hval hW _ _ _ hL hsh _
  exact contractPTurns H enc W base args ds gs before hval hW hL

theorem saidPTurns : Rows.PlanTurnsSaid :=
  OpenClaim.holds_of_cond 3 Tryz.f3 rfl rfl rfl rfl rfl rfl rfl ⟨rfl, rfl, rfl, rfl, rfl⟩ rfl rfl rfl rfl rfl (by kernel_rfl) Tryz.func3 (by kernel_rfl)
    (of_decide_eq_true (by kernel_rfl)) (by unfold Func.isWrapper; first | (rw [if_pos (by decide +kernel)]; kernel_rfl) | (rw [if_neg (by decide +kernel)]; exact ⟨rfl, rfl⟩))
    (fun os started H enc _ F => by rw [OpenClaim.pre_eq_preRow]; exact liftedPTurns os started H enc F)

theorem plainPTurns (f : FuncId) (fn : Func) (hf : Tryz.pinned.checked.prog.funcNamed "foreman/foremankeep.PlanTurns" = some f) (hfn : Tryz.pinned.checked.prog.funcs[f]? = some fn) :
    true = Tryz.pinned.checked.prog.looks [] ∧ ∀ (j : Nat) t, fn.params[j]? = some t → Tryz.pinned.checked.prog.wantsStandIn t = false := by
  obtain rfl : f = 3 := Option.some.inj ((show Tryz.prog.funcNamed "foreman/foremankeep.PlanTurns" = some 3 by kernel_rfl).symm.trans hf) |>.symm
  obtain rfl : fn = Tryz.f3 := (Option.some.inj (Tryz.func3.symm.trans hfn)).symm
  refine ⟨by kernel_rfl, fun j t ht => ?_⟩
  rw [Tryz.params3] at ht
  have hm := Array.mem_of_getElem? ht
  simp only [List.mem_toArray, List.mem_cons, List.not_mem_nil, or_false] at hm
  rcases hm with rfl | rfl
  · exact (show Tryz.prog.wantsStandIn 9 = false by kernel_rfl)
  · exact (show Tryz.prog.wantsStandIn 3 = false by kernel_rfl)

/-- The card. -/
theorem cardPTurns : Rows.PlanTurnsCardSaid :=
  Claim7.holds_tied_plain_at .later [] _ _ _ _ saidPTurns (fun _ h => by cases h) (by kernel_rfl) (fun _ h => by cases h) planTurns_row_tie rfl ⟨rfl, rfl⟩ (by kernel_rfl) rfl plainPTurns (by kernel_rfl)
end Go.Proofs.YtoncleppenggaaaGreatDoor

