import Derived.Test.YtlpomofaeeaneaaGreatDoorSetG
import Derived.Test.YtlpomofaeeaneaaGreatDoorOpsP
import Derived.Test.YtlpomofaeeaneaaGreatDoorSmlV
import Derived.Deep.RegionHeld3
import Derived.Deep.DeepCutAuto
set_option linter.unusedSimpArgs false
set_option linter.unusedVariables false
namespace Go.Proofs.YtlpomofaeeaneaaGreatDoor
open Go.RowKit

/-- A table's place that the region itself has made. -/
def Z2 (w : World) (b : Nat) : Prop := w.cell? ⟨b, 0, none⟩ = some (.slice none 0 0) ∧ w.cell? ⟨b, 0 + 1, none⟩ = some (.slice none 0 0) ∧ w.frozen? ⟨b, 0, none⟩ = false ∧ w.frozen? ⟨b, 0 + 1, none⟩ = false ∧ b < w.heap.size
theorem Z2.below {W w1 : World} {b : Nat} (h : Z2 W b) (hb : Below W.heap.size W w1) : Z2 w1 b := by
  obtain ⟨h0, h1, f0, f1, hl⟩ := h
  exact ⟨(hb.cell (p := ⟨b, 0, none⟩) hl).trans h0, (hb.cell (p := ⟨b, 0 + 1, none⟩) hl).trans h1, (hb.frozen (p := ⟨b, 0, none⟩) hl).trans f0, (hb.frozen (p := ⟨b, 0 + 1, none⟩) hl).trans f1, Nat.lt_of_lt_of_le hl hb.size⟩
theorem Z2.alloc {W : World} {b : Nat} (h : Z2 W b) (o : Obj) : Z2 (W.alloc o) b := h.below (below_box _ _)
theorem Z2.drew {W : World} {b : Nat} (h : Z2 W b) : Z2 W.drew b := h.below (Below.refl _ _).drew
theorem Z2.new {W : World} {b : Nat} {t : TypeId} (hb : W.heap.size = b) : Z2 (W.alloc (.cells #[.slice none 0 0, .slice none 0 0] t)) b := by
  subst hb
  exact ⟨by simp, by simp, by simp, by simp, by simp⟩
/-- A table that lies somewhere. -/
def TabIs (w : World) (b : Nat) (cs : List Cl) (rs : List (List Vl)) : Prop := ∃ x y, w.cell? ⟨b, 0, none⟩ = some x ∧ w.cell? ⟨b, 1, none⟩ = some y ∧ b < w.heap.size ∧ ColsIs w x cs ∧ RowsIs w y rs
theorem TabIs.below {w w' : World} {b : Nat} {cs : List Cl} {rs : List (List Vl)} (h : TabIs w b cs rs) (hb : Below w.heap.size w w') : TabIs w' b cs rs := by
  obtain ⟨x, y, h0, h1, hl, hc, hr⟩ := h
  exact ⟨x, y, (hb.cell (p := ⟨b, 0, none⟩) hl).trans h0, (hb.cell (p := ⟨b, 1, none⟩) hl).trans h1, Nat.lt_of_lt_of_le hl hb.size, hc.below hb, hr.below hb⟩
theorem tab_put {w2 : World} {B b : Nat} {x y : Value} {cs : List Cl} {rs : List (List Vl)} (hz : Z2 w2 b) (hc : ColsNew w2 B x cs) (hr : RowsNew w2 B y rs) (hb : b < B) : TabIs ((w2.setCell ⟨b, 0, none⟩ x).setCell ⟨b, 1, none⟩ y) b cs rs := by
  obtain ⟨h0, h1, f0, f1, hl⟩ := hz
  refine ⟨x, y, ?_, ?_, by simpa using hl, ((hc.set hb).set hb).is, ((hr.set hb).set hb).is⟩
  · rw [World.cell?_setCell_other _ _ _ _ (by intro e; simp at e)]
    exact World.cell?_setCell_same _ _ _ h0
  · exact World.cell?_setCell_same _ _ _ ((World.cell?_setCell_other _ _ _ _ (by intro e; simp at e)).trans h1)
theorem tab_laid {w2 : World} {B b : Nat} {x y : Value} {cs : List Cl} {rs : List (List Vl)} {t : TypeId} (hc : ColsNew w2 B x cs) (hr : RowsNew w2 B y rs) (hb : w2.heap.size = b) : TabIs (w2.alloc (.cells #[x, y] t)) b cs rs := by
  subst hb
  exact ⟨x, y, by simp, by simp, by simp, hc.is.below (below_box _ _), hr.is.below (below_box _ _)⟩
theorem keep2 {W W' : World} {N : Nat} {v0 v1 : Value} (hb : Below W.heap.size W W') (h0 : W.cell? ⟨N, 0, none⟩ = some v0) (h1 : W.cell? ⟨N, 1, none⟩ = some v1) : W'.cell? ⟨N, 0, none⟩ = some v0 ∧ W'.cell? ⟨N, 1, none⟩ = some v1 := by
  have hN : N < W.heap.size := World.block_lt_of_cell? W _ h0
  exact ⟨(hb.cell (p := ⟨N, 0, none⟩) hN).trans h0, (hb.cell (p := ⟨N, 1, none⟩) hN).trans h1⟩
theorem keep3 {W W' : World} {N M : Nat} {v0 v1 v2 : Value} (hb : Below W.heap.size W W') (h0 : W.cell? ⟨N, 0, none⟩ = some v0) (h1 : W.cell? ⟨N, 1, none⟩ = some v1) (h2 : W.cell? ⟨M, 0, none⟩ = some v2) : W'.cell? ⟨N, 0, none⟩ = some v0 ∧ W'.cell? ⟨N, 1, none⟩ = some v1 ∧ W'.cell? ⟨M, 0, none⟩ = some v2 :=
  ⟨(keep2 hb h0 h1).1, (keep2 hb h0 h1).2, (hb.cell (p := ⟨M, 0, none⟩) (World.block_lt_of_cell? W _ h2)).trans h2⟩

set_option maxRecDepth 100000 in
set_option maxHeartbeats 3200000 in
/-- OpsSets, where the column can't be set. -/
theorem sets_bad (vc vr : Value) (cs : List Cl) (rs : List (List Vl)) (col : ByteArray) (n : Int) (w : World) (hc : ColsIs w vc cs) (hr : RowsIs w vr rs) (hcol : col.size ≤ maxLen) (hE : Env w) (hbad : rightB cs rs = false ∨ colErr cs col ≠ 0) :
    Calls Tryz.prog 5 #[.agg #[vc, vr], .string col, .int .i64 n] w fun e w' => e = .returned (.bool true) ∧ Below w.heap.size w w' := by
  have hSM := fun W (hW : Below w.heap.size w W) => small_any vc vr cs rs W (hc.below hW) (hr.below hW)
  have HDN := Hid.mk (fun W (hW : Below w.heap.size w W) => done_any W (hE.below hW))
  have HNUM := Hid.mk sets2_any
  have hSA := fun (op : ByteArray) (hop : inS threeOps op.data.toList = true) (m : Int) (hm : inNum m) W ab (hW : Below w.heap.size w W) (hab : W.cell? ⟨ab, 0, none⟩ = some (.string col)) => set1_bad op col (numA m) vc vr cs rs ab W hab (World.block_lt_of_cell? W _ hab) (hc.below hW) (hr.below hW) hop (by show (0 : Nat) ≤ maxLen; exact Nat.zero_le _) (no_bad (by rw [err_num cs op col m hm]; exact hbad))
  have hSC := fun W ab (hW : Below w.heap.size w W) (hab : W.cell? ⟨ab, 0, none⟩ = some (.string col)) => set1_bad ⟨#[45]⟩ col (colA col) vc vr cs rs ab W hab (World.block_lt_of_cell? W _ hab) (hc.below hW) (hr.below hW) (by decide) (by show (0 : Nat) ≤ maxLen; exact Nat.zero_le _) (no_bad (by rw [err_col cs]; exact hbad))
  have HSA := Hid.mk hSA
  have HSC := Hid.mk hSC
  obtain ⟨va, vcp, rfl, -⟩ := hc
  obtain ⟨ra, rcp, rfl, -⟩ := hr
  unfold maxLen at hcol
  clear hSA hSC hbad hE
  cases gs : smallB cs rs
  · simp only [gs] at hSM
    have HSM := Hid.mk hSM
    clear hSM gs
    go_enter Tryz.func5, Tryz.ntmps5
    go_wp2_with (go_at_call 6; refine (HSM.out _ (bel_box (bel_box (below_box _ _) _) _)).mono ?_; rintro e w1 ⟨rfl, hb1⟩)
    go_ret
    exact ⟨rfl, bel_then (bel_box (bel_box (below_box _ _) _) _) hb1⟩
  · simp only [gs] at hSM
    have HSM := Hid.mk hSM
    clear hSM gs
    go_enter Tryz.func5, Tryz.ntmps5
    go_wp2_with fail
    refine (HSM.out _ (bel_box (bel_box (below_box _ _) _) _)).mono ?_
    rintro e w1 ⟨rfl, hb1⟩
    have hb01 := bel_then (bel_box (bel_box (below_box _ _) _) _) hb1
    have s0 : w1.cell? ⟨w.heap.size, 0, none⟩ = some (.slice va cs.length vcp) := (hb1.cell (p := ⟨w.heap.size, 0, none⟩) (by simp; omega)).trans (((bel_box (below_box _ _) _).cell (p := ⟨w.heap.size, 0, none⟩) (by simp)).trans (by simp))
    have s1 : w1.cell? ⟨w.heap.size, 1, none⟩ = some (.slice ra rs.length rcp) := (hb1.cell (p := ⟨w.heap.size, 1, none⟩) (by simp; omega)).trans (((bel_box (below_box _ _) _).cell (p := ⟨w.heap.size, 1, none⟩) (by simp)).trans (by simp))
    have s2 : w1.cell? ⟨w.heap.size + 1, 0, none⟩ = some (.string col) := (hb1.cell (p := ⟨w.heap.size + 1, 0, none⟩) (by simp)).trans (((below_box _ _).cell (p := ⟨w.heap.size + 1, 0, none⟩) (by simp)).trans (by rw [World.cell?_alloc_at _ _ _ _ (by simp)]; rfl))
    have hz1 : w.heap.size + 2 < w1.heap.size := by have := hb1.size; simp at this; omega
    have HB1 := Hid.mk hb01
    clear hb1 hb01
    go_wp2_with (go_at_call 7; fail)
    · go_ret
      exact ⟨rfl, HB1.out⟩
    · refine (HDN.out _ HB1.out).mono ?_
      rintro e w3 ⟨rfl, hb3⟩
      have hb03 := bel_then HB1.out hb3
      have k0 := (hb3.cell (p := ⟨w.heap.size, 0, none⟩) (by show w.heap.size < _; omega)).trans s0
      have k1 := (hb3.cell (p := ⟨w.heap.size, 1, none⟩) (by show w.heap.size < _; omega)).trans s1
      have k2 := (hb3.cell (p := ⟨w.heap.size + 1, 0, none⟩) (by show w.heap.size + 1 < _; omega)).trans s2
      have hz3 : w.heap.size + 2 < w3.heap.size := by have := hb3.size; omega
      have HB3 := Hid.mk hb03
      have hmf : ∀ (fn : Fn) (first cap : Array Value) (w : World), (Instr.makeFunc fn first cap).run Tryz.prog w = .ok (.func fn first cap) w := fun _ _ _ _ => rfl
      clear hb3 hb03 s0 s1 s2 HB1 HDN HSM hz1
      go_wp2_with fail
      go_cut [9, 10] (fun p q wx => q = .bool false ∧ Below w3.heap.size w3 wx)
      case first =>
        go_region_held3 (fun w' => w'.cell? ⟨w.heap.size, 0, none⟩ = some (.slice va cs.length vcp) ∧ w'.cell? ⟨w.heap.size, 1, none⟩ = some (.slice ra rs.length rcp))
          (exact keep2 (W := w3) (by repeat' (first | with_reducible exact hx2 | with_reducible exact hx1 | with_reducible exact Below.refl _ _ | with_reducible refine Below.drew ?_ | with_reducible refine bel_box ?_ _ | with_reducible refine Below.setCell ?_ ?_ _ | (show w3.heap.size ≤ _; simp; done) | (show w3.heap.size ≤ _; simp; omega))) k0 k1)
          (first | (go_at_call 16; refine (HNUM.out 1 _).mono ?_; rintro e w1' ⟨rfl, hb1⟩; have hx1 := bel_then (show Below w3.heap.size w3 _ from (by repeat' (first | with_reducible exact hx2 | with_reducible exact hx1 | with_reducible exact Below.refl _ _ | with_reducible refine Below.drew ?_ | with_reducible refine bel_box ?_ _ | with_reducible refine Below.setCell ?_ ?_ _ | (show w3.heap.size ≤ _; simp; done) | (show w3.heap.size ≤ _; simp; omega)))) hb1; have hs1 := hx1.size; (first | (with_reducible have za0 := Z2.below (Z2.drew (Z2.new (W := w3) rfl)) hb1) | skip); (try obtain ⟨yza00, yza01, yza02, yza03, yza04⟩ := id za0)) | (go_at_call 15; refine (HSA.out ⟨#[42]⟩ (by decide) 1 ⟨by decide, by decide⟩ _ _ (bel_then HB3.out (show Below w3.heap.size w3 _ from (by repeat' (first | with_reducible exact hx2 | with_reducible exact hx1 | with_reducible exact Below.refl _ _ | with_reducible refine Below.drew ?_ | with_reducible refine bel_box ?_ _ | with_reducible refine Below.setCell ?_ ?_ _ | (show w3.heap.size ≤ _; simp; done) | (show w3.heap.size ≤ _; simp; omega))))) ((Below.cell (show Below w3.heap.size w3 _ from (by repeat' (first | with_reducible exact hx2 | with_reducible exact hx1 | with_reducible exact Below.refl _ _ | with_reducible refine Below.drew ?_ | with_reducible refine bel_box ?_ _ | with_reducible refine Below.setCell ?_ ?_ _ | (show w3.heap.size ≤ _; simp; done) | (show w3.heap.size ≤ _; simp; omega)))) (p := ⟨w.heap.size + 1, 0, none⟩) (by show w.heap.size + 1 < _; omega)).trans k2)).mono ?_; rintro e w2' ⟨rfl, hb2⟩; have hx2 := bel_then (show Below w3.heap.size w3 _ from (by repeat' (first | with_reducible exact hx2 | with_reducible exact hx1 | with_reducible exact Below.refl _ _ | with_reducible refine Below.drew ?_ | with_reducible refine bel_box ?_ _ | with_reducible refine Below.setCell ?_ ?_ _ | (show w3.heap.size ≤ _; simp; done) | (show w3.heap.size ≤ _; simp; omega)))) hb2; have hs2 := hx2.size; (first | (with_reducible have zb0 := Z2.below za0 hb2) | skip); (first | (with_reducible have zb1 := Z2.below (Z2.new (W := w1') rfl) hb2) | skip); (try obtain ⟨yzb00, yzb01, yzb02, yzb03, yzb04⟩ := id zb0); (try obtain ⟨yzb10, yzb11, yzb12, yzb13, yzb14⟩ := id zb1)))
        all_goals go_wp2_with fail
        all_goals go_meet
        all_goals exact ⟨rfl, (by repeat' (first | with_reducible exact hx2 | with_reducible exact hx1 | with_reducible exact Below.refl _ _ | with_reducible refine Below.drew ?_ | with_reducible refine bel_box ?_ _ | with_reducible refine Below.setCell ?_ ?_ _ | (show w3.heap.size ≤ _; simp; done) | (show w3.heap.size ≤ _; simp; omega)))⟩
      case rest =>
        obtain ⟨rfl, hb4⟩ := hcut
        obtain ⟨w4, hw4⟩ : ∃ x, x = wc := ⟨_, rfl⟩
        subst hw4
        have hb04 := bel_then HB3.out hb4
        have m0 := (hb4.cell (p := ⟨w.heap.size, 0, none⟩) (by show w.heap.size < _; omega)).trans k0
        have m1 := (hb4.cell (p := ⟨w.heap.size, 1, none⟩) (by show w.heap.size < _; omega)).trans k1
        have m2 := (hb4.cell (p := ⟨w.heap.size + 1, 0, none⟩) (by show w.heap.size + 1 < _; omega)).trans k2
        have hz4 : w.heap.size + 2 < w4.heap.size := by have := hb4.size; omega
        have HB4 := Hid.mk hb04
        clear hb4 hb04 k0 k1 k2 hz3 HB3
        go_wp2_with fail
        go_cut [11, 12] (fun p q wx => q = .bool false ∧ Below w4.heap.size w4 wx)
        case first =>
          go_region_held3 (fun w' => w'.cell? ⟨w.heap.size, 0, none⟩ = some (.slice va cs.length vcp) ∧ w'.cell? ⟨w.heap.size, 1, none⟩ = some (.slice ra rs.length rcp))
            (exact keep2 (W := w4) (by repeat' (first | with_reducible exact hx2 | with_reducible exact hx1 | with_reducible exact Below.refl _ _ | with_reducible refine Below.drew ?_ | with_reducible refine bel_box ?_ _ | with_reducible refine Below.setCell ?_ ?_ _ | (show w4.heap.size ≤ _; simp; done) | (show w4.heap.size ≤ _; simp; omega))) m0 m1)
            (first | (go_at_call 16; refine (HNUM.out 0 _).mono ?_; rintro e w1' ⟨rfl, hb1⟩; have hx1 := bel_then (show Below w4.heap.size w4 _ from (by repeat' (first | with_reducible exact hx2 | with_reducible exact hx1 | with_reducible exact Below.refl _ _ | with_reducible refine Below.drew ?_ | with_reducible refine bel_box ?_ _ | with_reducible refine Below.setCell ?_ ?_ _ | (show w4.heap.size ≤ _; simp; done) | (show w4.heap.size ≤ _; simp; omega)))) hb1; have hs1 := hx1.size; (first | (with_reducible have za0 := Z2.below (Z2.drew (Z2.new (W := w4) rfl)) hb1) | skip); (try obtain ⟨yza00, yza01, yza02, yza03, yza04⟩ := id za0)) | (go_at_call 15; refine (HSA.out ⟨#[43]⟩ (by decide) 0 ⟨by decide, by decide⟩ _ _ (bel_then HB4.out (show Below w4.heap.size w4 _ from (by repeat' (first | with_reducible exact hx2 | with_reducible exact hx1 | with_reducible exact Below.refl _ _ | with_reducible refine Below.drew ?_ | with_reducible refine bel_box ?_ _ | with_reducible refine Below.setCell ?_ ?_ _ | (show w4.heap.size ≤ _; simp; done) | (show w4.heap.size ≤ _; simp; omega))))) ((Below.cell (show Below w4.heap.size w4 _ from (by repeat' (first | with_reducible exact hx2 | with_reducible exact hx1 | with_reducible exact Below.refl _ _ | with_reducible refine Below.drew ?_ | with_reducible refine bel_box ?_ _ | with_reducible refine Below.setCell ?_ ?_ _ | (show w4.heap.size ≤ _; simp; done) | (show w4.heap.size ≤ _; simp; omega)))) (p := ⟨w.heap.size + 1, 0, none⟩) (by show w.heap.size + 1 < _; omega)).trans m2)).mono ?_; rintro e w2' ⟨rfl, hb2⟩; have hx2 := bel_then (show Below w4.heap.size w4 _ from (by repeat' (first | with_reducible exact hx2 | with_reducible exact hx1 | with_reducible exact Below.refl _ _ | with_reducible refine Below.drew ?_ | with_reducible refine bel_box ?_ _ | with_reducible refine Below.setCell ?_ ?_ _ | (show w4.heap.size ≤ _; simp; done) | (show w4.heap.size ≤ _; simp; omega)))) hb2; have hs2 := hx2.size; (first | (with_reducible have zb0 := Z2.below za0 hb2) | skip); (first | (with_reducible have zb1 := Z2.below (Z2.new (W := w1') rfl) hb2) | skip); (try obtain ⟨yzb00, yzb01, yzb02, yzb03, yzb04⟩ := id zb0); (try obtain ⟨yzb10, yzb11, yzb12, yzb13, yzb14⟩ := id zb1)))
          all_goals go_wp2_with fail
          all_goals go_meet
          all_goals exact ⟨rfl, (by repeat' (first | with_reducible exact hx2 | with_reducible exact hx1 | with_reducible exact Below.refl _ _ | with_reducible refine Below.drew ?_ | with_reducible refine bel_box ?_ _ | with_reducible refine Below.setCell ?_ ?_ _ | (show w4.heap.size ≤ _; simp; done) | (show w4.heap.size ≤ _; simp; omega)))⟩
        case rest =>
          obtain ⟨rfl, hb5⟩ := hcut
          obtain ⟨w5, hw5⟩ : ∃ x, x = wc := ⟨_, rfl⟩
          subst hw5
          have hb05 := bel_then HB4.out hb5
          have n0 := (hb5.cell (p := ⟨w.heap.size, 0, none⟩) (by show w.heap.size < _; omega)).trans m0
          have n1 := (hb5.cell (p := ⟨w.heap.size, 1, none⟩) (by show w.heap.size < _; omega)).trans m1
          have n2 := (hb5.cell (p := ⟨w.heap.size + 1, 0, none⟩) (by show w.heap.size + 1 < _; omega)).trans m2
          have hz5 : w.heap.size + 2 < w5.heap.size := by have := hb5.size; omega
          have HB5 := Hid.mk hb05
          clear hb5 hb05 m0 m1 m2 hz4 HB4
          go_wp2_with (go_at_call 15; refine (HSC.out _ _ HB5.out n2).mono ?_; rintro e w6 ⟨rfl, hb6⟩)
          go_ret
          exact ⟨rfl, bel_box (bel_then HB5.out hb6) _⟩
end Go.Proofs.YtlpomofaeeaneaaGreatDoor
