import Derived.Test.YtlpomofaeeaneaaGreatDoorSetH
set_option linter.unusedSimpArgs false
set_option linter.unusedVariables false
namespace Go.Proofs.YtlpomofaeeaneaaGreatDoor
open Go.RowKit

set_option maxRecDepth 100000 in
set_option maxHeartbeats 6400000 in
/-- OpsSets, where the column can be set. -/
theorem sets_good (vc vr : Value) (cs : List Cl) (rs : List (List Vl)) (col : ByteArray) (n : Int) (w : World) (hc : ColsIs w vc cs) (hr : RowsIs w vr rs) (hcol : col.size ≤ maxLen) (hE : Env w) (hrt : rightB cs rs = true) (hce : colErr cs col = 0) (hn0 : -9223372036854775808 ≤ n) (hn1 : n ≤ 9223372036854775807) :
    Calls Tryz.prog 5 #[.agg #[vc, vr], .string col, .int .i64 n] w fun e w' => e = .returned (.bool true) ∧ Below w.heap.size w w' := by
  obtain ⟨i, hg⟩ := col_good hce
  obtain ⟨hr1, hr2, hr3, hr4⟩ := right_len hrt
  have hgi : i < cs.length := hg.2.1.1
  have hSM := fun W (hW : Below w.heap.size w W) => small_any vc vr cs rs W (hc.below hW) (hr.below hW)
  have HDN := Hid.mk (fun W (hW : Below w.heap.size w W) => done_any W (hE.below hW))
  have HNUM := Hid.mk sets2_any
  have HPK := Hid.mk (fun W => pick_any n W hn0 hn1)
  have h42 := same_rows (op := ⟨#[42]⟩) (n := 1) hrt hg (fun a => by show reckI [42] a 1 = a; unfold reckI; rw [if_neg (by decide), if_neg (by decide)]; omega)
  have h43 := same_rows (op := ⟨#[43]⟩) (n := 0) hrt hg (fun a => by show reckI [43] a 0 = a; unfold reckI; rw [if_pos rfl]; omega)
  have h45 := zero_rows hrt hg
  have hS1 := fun W ab (hW : Below w.heap.size w W) (hab : W.cell? ⟨ab, 0, none⟩ = some (.string col)) => set1_ok ⟨#[42]⟩ col (numA 1) vc vr cs rs ab W hab (World.block_lt_of_cell? W _ hab) (hc.below hW) (hr.below hW) (by decide) (by show (0 : Nat) ≤ maxLen; exact Nat.zero_le _) i hg.1 (no_num hrt ((err_num cs _ col 1 ⟨by decide, by decide⟩).trans hce) h42.1)
  have hS2 := fun W ab (hW : Below w.heap.size w W) (hab : W.cell? ⟨ab, 0, none⟩ = some (.string col)) => set1_ok ⟨#[43]⟩ col (numA 0) vc vr cs rs ab W hab (World.block_lt_of_cell? W _ hab) (hc.below hW) (hr.below hW) (by decide) (by show (0 : Nat) ≤ maxLen; exact Nat.zero_le _) i hg.1 (no_num hrt ((err_num cs _ col 0 ⟨by decide, by decide⟩).trans hce) h43.1)
  have hS3 := fun W ab (hW : Below w.heap.size w W) (hab : W.cell? ⟨ab, 0, none⟩ = some (.string col)) => set1_ok ⟨#[45]⟩ col (colA col) vc vr cs rs ab W hab (World.block_lt_of_cell? W _ hab) (hc.below hW) (hr.below hW) (by decide) (by show (0 : Nat) ≤ maxLen; exact Nat.zero_le _) i hg.1 (no_num hrt ((err_col cs _ col).trans hce) h45.1)
  have hS4 := fun (m : Int) (hm0 : 0 ≤ m) (hm1 : m < 1000000000) (hok : ∀ r ∈ rs, inNum (setV cs (jset 0 ⟨#[43]⟩ col (numA m)) r)) W ab (hW : Below w.heap.size w W) (hab : W.cell? ⟨ab, 0, none⟩ = some (.string col)) => set1_ok ⟨#[43]⟩ col (numA m) vc vr cs rs ab W hab (World.block_lt_of_cell? W _ hab) (hc.below hW) (hr.below hW) (by decide) (by show (0 : Nat) ≤ maxLen; exact Nat.zero_le _) i hg.1 (no_num hrt ((err_num cs _ col m ⟨by omega, by omega⟩).trans hce) hok)
  have hS5 := fun (m : Int) (hm0 : 0 ≤ m) (hm1 : m < 1000000000) (hno : ∃ r ∈ rs, ¬ inNum (setV cs (jset 0 ⟨#[43]⟩ col (numA m)) r)) W ab (hW : Below w.heap.size w W) (hab : W.cell? ⟨ab, 0, none⟩ = some (.string col)) => set1_bad ⟨#[43]⟩ col (numA m) vc vr cs rs ab W hab (World.block_lt_of_cell? W _ hab) (hc.below hW) (hr.below hW) (by decide) (by show (0 : Nat) ≤ maxLen; exact Nat.zero_le _) (no_over hno)
  have hS6 := fun (m : Int) (hm0 : 0 ≤ m) (hm1 : m < 1000000000) (hok : ∀ r ∈ rs, inNum (setV cs (jset 0 ⟨#[43]⟩ col (numA m)) r)) (x y : Value) W ab (hab : W.cell? ⟨ab, 0, none⟩ = some (.string col)) (hx : ColsIs W x cs) (hy : RowsIs W y (rs.map (setR cs (jset 0 ⟨#[43]⟩ col (numA m)) i))) => set1_ok ⟨#[45]⟩ col (numA m) x y cs (rs.map (setR cs (jset 0 ⟨#[43]⟩ col (numA m)) i)) ab W hab (World.block_lt_of_cell? W _ hab) hx hy (by decide) (by show (0 : Nat) ≤ maxLen; exact Nat.zero_le _) i hg.1 (no_num (back_rows hrt hg hok).1 ((err_num cs _ col m ⟨by omega, by omega⟩).trans hce) (back_rows hrt hg hok).2.1)
  rw [h42.2] at hS1
  rw [h43.2] at hS2
  have hEQ : ∀ (m : Int) (hok : ∀ r ∈ rs, inNum (setV cs (jset 0 ⟨#[43]⟩ col (numA m)) r)), (rs.map (setR cs (jset 0 ⟨#[43]⟩ col (numA m)) i)).map (setR cs (jset 0 ⟨#[45]⟩ col (numA m)) i) = rs := fun m hok => (back_rows hrt hg hok).2.2
  have hOV : ∀ (m : Int), 0 ≤ m → (∃ r ∈ rs, ¬ inNum (setV cs (jset 0 ⟨#[43]⟩ col (numA m)) r)) → rs.any (over i m) = true := fun m hm h => more_bad hrt hg hm h
  have HZ := Hid.mk h45.2
  obtain ⟨rz, hrz⟩ : ∃ rz, rs.map (setR cs (jset 0 ⟨#[45]⟩ col (colA col)) i) = rz := ⟨_, rfl⟩
  have hzl : ∀ r ∈ rz, i < r.length ∧ r.length ≤ 100 := by
    intro r hm
    rw [← hrz] at hm
    obtain ⟨q, hq, rfl⟩ := List.mem_map.1 hm
    have := hr4 q hq
    simp only [setR, List.length_set]
    omega
  have hzn : rz.length ≤ 65 := by rw [← hrz]; simp; omega
  rw [hrz] at hS3 HZ
  have HS1 := Hid.mk hS1
  have HS2 := Hid.mk hS2
  have HS3 := Hid.mk hS3
  have HS4 := Hid.mk hS4
  have HS5 := Hid.mk hS5
  have HS6 := Hid.mk hS6
  have HEQ := Hid.mk hEQ
  have HOV := Hid.mk hOV
  have HZL := Hid.mk (And.intro hzl hzn)
  have HRL := Hid.mk (And.intro hr1 (And.intro hr2 (And.intro hr3 hr4)))
  have HG := Hid.mk hg.1
  have HGI := Hid.mk hgi
  have HCR := Hid.mk (And.intro hc hr)
  obtain ⟨cb, co, vcp, rfl, hcbl, hcat⟩ := cols_at hc hr1
  obtain ⟨ra, rcp, rfl, -⟩ := hr
  have HCA := Hid.mk (And.intro hcbl hcat)
  unfold maxLen at hcol
  clear hS1 hS2 hS3 hS4 hS5 hS6 hEQ hOV hzl hzn hr1 hr2 hr3 hr4 hg hgi hc hE hrt hce hrz h42 h43 h45 hcbl hcat hn0 hn1
  cases gs : smallB cs rs
  · simp only [gs] at hSM
    have HSM := Hid.mk hSM
    clear hSM gs
    go_enter Tryz.func5, Tryz.ntmps5
    go_wp2_with (go_at_call 6; refine (HSM.out _ (bel_box (bel_box (below_box _ _) _) _)).mono ?_; rintro e w1 ⟨rfl, hb1⟩)
    go_ret
    exact ⟨rfl, bel_then (bel_box (bel_box (below_box _ _) _) _) hb1⟩
  · simp only [gs] at hSM
    have HSM := Hid.mk hSM
    clear hSM gs
    go_enter Tryz.func5, Tryz.ntmps5
    go_wp2_with fail
    refine (HSM.out _ (bel_box (bel_box (below_box _ _) _) _)).mono ?_
    rintro e w1 ⟨rfl, hb1⟩
    have hb01 := bel_then (bel_box (bel_box (below_box _ _) _) _) hb1
    have s0 : w1.cell? ⟨w.heap.size, 0, none⟩ = some (.slice (some ⟨cb, co, none⟩) cs.length vcp) := (hb1.cell (p := ⟨w.heap.size, 0, none⟩) (by simp; omega)).trans (((bel_box (below_box _ _) _).cell (p := ⟨w.heap.size, 0, none⟩) (by simp)).trans (by simp))
    have s1 : w1.cell? ⟨w.heap.size, 1, none⟩ = some (.slice ra rs.length rcp) := (hb1.cell (p := ⟨w.heap.size, 1, none⟩) (by simp; omega)).trans (((bel_box (below_box _ _) _).cell (p := ⟨w.heap.size, 1, none⟩) (by simp)).trans (by simp))
    have s2 : w1.cell? ⟨w.heap.size + 1, 0, none⟩ = some (.string col) := (hb1.cell (p := ⟨w.heap.size + 1, 0, none⟩) (by simp)).trans (((below_box _ _).cell (p := ⟨w.heap.size + 1, 0, none⟩) (by simp)).trans (by rw [World.cell?_alloc_at _ _ _ _ (by simp)]; rfl))
    have s3 : w1.cell? ⟨w.heap.size + 1 + 1, 0, none⟩ = some (.int .i64 n) := (hb1.cell (p := ⟨w.heap.size + 1 + 1, 0, none⟩) (by simp)).trans (by rw [World.cell?_alloc_at _ _ _ _ (by simp)]; rfl)
    have s4 : w1.frozen? ⟨w.heap.size + 1 + 1, 0, none⟩ = false := (hb1.frozen (p := ⟨w.heap.size + 1 + 1, 0, none⟩) (by simp)).trans (by rw [World.frozen?_alloc_at _ _ _ _ (by simp)])
    have hz1 : w.heap.size + 1 + 1 < w1.heap.size := by have := hb1.size; simp at this; omega
    have HB1 := Hid.mk hb01
    clear hb1 hb01
    go_wp2_with (go_at_call 7; fail)
    · go_ret
      exact ⟨rfl, HB1.out⟩
    · refine (HDN.out _ HB1.out).mono ?_
      rintro e w3 ⟨rfl, hb3⟩
      have hbx := bel_then HB1.out hb3
      have k0 := (hb3.cell (p := ⟨w.heap.size, 0, none⟩) (by show w.heap.size < _; omega)).trans s0
      have k1 := (hb3.cell (p := ⟨w.heap.size, 1, none⟩) (by show w.heap.size < _; omega)).trans s1
      have k2 := (hb3.cell (p := ⟨w.heap.size + 1, 0, none⟩) (by show w.heap.size + 1 < _; omega)).trans s2
      have k3 := (hb3.cell (p := ⟨w.heap.size + 1 + 1, 0, none⟩) (by show w.heap.size + 1 + 1 < _; omega)).trans s3
      have k4 := (hb3.frozen (p := ⟨w.heap.size + 1 + 1, 0, none⟩) (by show w.heap.size + 1 + 1 < _; omega)).trans s4
      have hz3 : w.heap.size + 1 + 1 < w3.heap.size := by have := hb3.size; omega
      have HB3 := Hid.mk hbx
      clear hbx s0 s1 s2 s3 s4 hz1 HB1
      have hmf : ∀ (fn : Fn) (first cap : Array Value) (w : World), (Instr.makeFunc fn first cap).run Tryz.prog w = .ok (.func fn first cap) w := fun _ _ _ _ => rfl
      clear HDN HSM
      go_wp2_with fail
      go_cut [9, 10] (fun p q wx => q = .bool true ∧ ∃ b : Nat, p = .pointer (some ⟨b, 0, none⟩) ∧ TabIs wx b cs rs ∧ Below w3.heap.size w3 wx)
      case first =>
        go_region_held3 (fun w' => w'.cell? ⟨w.heap.size, 0, none⟩ = some (.slice (some ⟨cb, co, none⟩) cs.length vcp) ∧ w'.cell? ⟨w.heap.size, 1, none⟩ = some (.slice ra rs.length rcp))
          (exact keep2 (W := w3) (by repeat' (first | with_reducible exact hx2 | with_reducible exact hx1 | with_reducible exact Below.refl _ _ | with_reducible refine Below.drew ?_ | with_reducible refine bel_box ?_ _ | with_reducible refine Below.setCell ?_ ?_ _ | (show w3.heap.size ≤ _; simp; done) | (show w3.heap.size ≤ _; simp; omega))) k0 k1)
          (first | (go_at_call 16; refine (HNUM.out 1 _).mono ?_; rintro e w1' ⟨rfl, hb1⟩; have hx1 := bel_then (show Below w3.heap.size w3 _ from (by repeat' (first | with_reducible exact hx2 | with_reducible exact hx1 | with_reducible exact Below.refl _ _ | with_reducible refine Below.drew ?_ | with_reducible refine bel_box ?_ _ | with_reducible refine Below.setCell ?_ ?_ _ | (show w3.heap.size ≤ _; simp; done) | (show w3.heap.size ≤ _; simp; omega)))) hb1; have hs1 := hx1.size; (first | (with_reducible have za0 := Z2.below (Z2.drew (Z2.new (W := w3) rfl)) hb1) | skip); (try obtain ⟨yza00, yza01, yza02, yza03, yza04⟩ := id za0)) | (go_at_call 15; refine (HS1.out _ _ (bel_then HB3.out (show Below w3.heap.size w3 _ from (by repeat' (first | with_reducible exact hx2 | with_reducible exact hx1 | with_reducible exact Below.refl _ _ | with_reducible refine Below.drew ?_ | with_reducible refine bel_box ?_ _ | with_reducible refine Below.setCell ?_ ?_ _ | (show w3.heap.size ≤ _; simp; done) | (show w3.heap.size ≤ _; simp; omega))))) ((Below.cell (show Below w3.heap.size w3 _ from (by repeat' (first | with_reducible exact hx2 | with_reducible exact hx1 | with_reducible exact Below.refl _ _ | with_reducible refine Below.drew ?_ | with_reducible refine bel_box ?_ _ | with_reducible refine Below.setCell ?_ ?_ _ | (show w3.heap.size ≤ _; simp; done) | (show w3.heap.size ≤ _; simp; omega)))) (p := ⟨w.heap.size + 1, 0, none⟩) (by show w.heap.size + 1 < _; omega)).trans k2)).mono ?_; rintro e w2' ⟨c', r', rfl, hcn, hrn, hb2⟩; obtain ⟨c'a, c'c, rfl⟩ := own_slice hcn.1; obtain ⟨r'a, r'c, rfl⟩ := rowsNew_slice hrn; have hx2 := bel_then (show Below w3.heap.size w3 _ from (by repeat' (first | with_reducible exact hx2 | with_reducible exact hx1 | with_reducible exact Below.refl _ _ | with_reducible refine Below.drew ?_ | with_reducible refine bel_box ?_ _ | with_reducible refine Below.setCell ?_ ?_ _ | (show w3.heap.size ≤ _; simp; done) | (show w3.heap.size ≤ _; simp; omega)))) hb2; have hs2 := hx2.size; (first | (with_reducible have zb0 := Z2.below za0 hb2) | skip); (first | (with_reducible have zb1 := Z2.below (Z2.new (W := w1') rfl) hb2) | skip); (try obtain ⟨yzb00, yzb01, yzb02, yzb03, yzb04⟩ := id zb0); (try obtain ⟨yzb10, yzb11, yzb12, yzb13, yzb14⟩ := id zb1)))
        all_goals go_wp2_with fail
        all_goals go_meet
        all_goals refine ⟨rfl, _, rfl, ?_, (by repeat' (first | with_reducible exact hx2 | with_reducible exact hx1 | with_reducible exact Below.refl _ _ | with_reducible refine Below.drew ?_ | with_reducible refine bel_box ?_ _ | with_reducible refine Below.setCell ?_ ?_ _ | (show w3.heap.size ≤ _; simp; done) | (show w3.heap.size ≤ _; simp; omega)))⟩
        all_goals first | with_reducible exact tab_put zb0 hcn hrn (by first | (simp; done) | (simp; omega) | omega) | with_reducible exact tab_put zb1 hcn hrn (by first | (simp; done) | (simp; omega) | omega) | with_reducible exact tab_laid hcn hrn rfl
      case rest =>
        obtain ⟨rfl, b9, rfl, ht9, hb4⟩ := hcut
        obtain ⟨w4, hw4⟩ : ∃ x, x = wc := ⟨_, rfl⟩
        subst hw4
        have hbx := bel_then HB3.out hb4
        have m0 := (hb4.cell (p := ⟨w.heap.size, 0, none⟩) (by show w.heap.size < _; omega)).trans k0
        have m1 := (hb4.cell (p := ⟨w.heap.size, 1, none⟩) (by show w.heap.size < _; omega)).trans k1
        have m2 := (hb4.cell (p := ⟨w.heap.size + 1, 0, none⟩) (by show w.heap.size + 1 < _; omega)).trans k2
        have m3 := (hb4.cell (p := ⟨w.heap.size + 1 + 1, 0, none⟩) (by show w.heap.size + 1 + 1 < _; omega)).trans k3
        have m4 := (hb4.frozen (p := ⟨w.heap.size + 1 + 1, 0, none⟩) (by show w.heap.size + 1 + 1 < _; omega)).trans k4
        have hz4 : w.heap.size + 1 + 1 < w4.heap.size := by have := hb4.size; omega
        have HB4 := Hid.mk hbx
        clear hbx k0 k1 k2 k3 k4 hz3 HB3
        have HT9 := Hid.mk ht9
        clear ht9 hb4
        go_wp2_with fail
        go_cut [11, 12] (fun p q wx => q = .bool true ∧ ∃ b : Nat, p = .pointer (some ⟨b, 0, none⟩) ∧ TabIs wx b cs rs ∧ Below w4.heap.size w4 wx)
        case first =>
          go_region_held3 (fun w' => w'.cell? ⟨w.heap.size, 0, none⟩ = some (.slice (some ⟨cb, co, none⟩) cs.length vcp) ∧ w'.cell? ⟨w.heap.size, 1, none⟩ = some (.slice ra rs.length rcp))
            (exact keep2 (W := w4) (by repeat' (first | with_reducible exact hx2 | with_reducible exact hx1 | with_reducible exact Below.refl _ _ | with_reducible refine Below.drew ?_ | with_reducible refine bel_box ?_ _ | with_reducible refine Below.setCell ?_ ?_ _ | (show w4.heap.size ≤ _; simp; done) | (show w4.heap.size ≤ _; simp; omega))) m0 m1)
            (first | (go_at_call 16; refine (HNUM.out 0 _).mono ?_; rintro e w1' ⟨rfl, hb1⟩; have hx1 := bel_then (show Below w4.heap.size w4 _ from (by repeat' (first | with_reducible exact hx2 | with_reducible exact hx1 | with_reducible exact Below.refl _ _ | with_reducible refine Below.drew ?_ | with_reducible refine bel_box ?_ _ | with_reducible refine Below.setCell ?_ ?_ _ | (show w4.heap.size ≤ _; simp; done) | (show w4.heap.size ≤ _; simp; omega)))) hb1; have hs1 := hx1.size; (first | (with_reducible have za0 := Z2.below (Z2.drew (Z2.new (W := w4) rfl)) hb1) | skip); (try obtain ⟨yza00, yza01, yza02, yza03, yza04⟩ := id za0)) | (go_at_call 15; refine (HS2.out _ _ (bel_then HB4.out (show Below w4.heap.size w4 _ from (by repeat' (first | with_reducible exact hx2 | with_reducible exact hx1 | with_reducible exact Below.refl _ _ | with_reducible refine Below.drew ?_ | with_reducible refine bel_box ?_ _ | with_reducible refine Below.setCell ?_ ?_ _ | (show w4.heap.size ≤ _; simp; done) | (show w4.heap.size ≤ _; simp; omega))))) ((Below.cell (show Below w4.heap.size w4 _ from (by repeat' (first | with_reducible exact hx2 | with_reducible exact hx1 | with_reducible exact Below.refl _ _ | with_reducible refine Below.drew ?_ | with_reducible refine bel_box ?_ _ | with_reducible refine Below.setCell ?_ ?_ _ | (show w4.heap.size ≤ _; simp; done) | (show w4.heap.size ≤ _; simp; omega)))) (p := ⟨w.heap.size + 1, 0, none⟩) (by show w.heap.size + 1 < _; omega)).trans m2)).mono ?_; rintro e w2' ⟨c', r', rfl, hcn, hrn, hb2⟩; obtain ⟨c'a, c'c, rfl⟩ := own_slice hcn.1; obtain ⟨r'a, r'c, rfl⟩ := rowsNew_slice hrn; have hx2 := bel_then (show Below w4.heap.size w4 _ from (by repeat' (first | with_reducible exact hx2 | with_reducible exact hx1 | with_reducible exact Below.refl _ _ | with_reducible refine Below.drew ?_ | with_reducible refine bel_box ?_ _ | with_reducible refine Below.setCell ?_ ?_ _ | (show w4.heap.size ≤ _; simp; done) | (show w4.heap.size ≤ _; simp; omega)))) hb2; have hs2 := hx2.size; (first | (with_reducible have zb0 := Z2.below za0 hb2) | skip); (first | (with_reducible have zb1 := Z2.below (Z2.new (W := w1') rfl) hb2) | skip); (try obtain ⟨yzb00, yzb01, yzb02, yzb03, yzb04⟩ := id zb0); (try obtain ⟨yzb10, yzb11, yzb12, yzb13, yzb14⟩ := id zb1)))
          all_goals go_wp2_with fail
          all_goals go_meet
          all_goals refine ⟨rfl, _, rfl, ?_, (by repeat' (first | with_reducible exact hx2 | with_reducible exact hx1 | with_reducible exact Below.refl _ _ | with_reducible refine Below.drew ?_ | with_reducible refine bel_box ?_ _ | with_reducible refine Below.setCell ?_ ?_ _ | (show w4.heap.size ≤ _; simp; done) | (show w4.heap.size ≤ _; simp; omega)))⟩
          all_goals first | with_reducible exact tab_put zb0 hcn hrn (by first | (simp; done) | (simp; omega) | omega) | with_reducible exact tab_put zb1 hcn hrn (by first | (simp; done) | (simp; omega) | omega) | with_reducible exact tab_laid hcn hrn rfl
        case rest =>
          obtain ⟨rfl, b11, rfl, ht11, hb5⟩ := hcut
          obtain ⟨w5, hw5⟩ : ∃ x, x = wc := ⟨_, rfl⟩
          subst hw5
          have hbx := bel_then HB4.out hb5
          have n0 := (hb5.cell (p := ⟨w.heap.size, 0, none⟩) (by show w.heap.size < _; omega)).trans m0
          have n1 := (hb5.cell (p := ⟨w.heap.size, 1, none⟩) (by show w.heap.size < _; omega)).trans m1
          have n2 := (hb5.cell (p := ⟨w.heap.size + 1, 0, none⟩) (by show w.heap.size + 1 < _; omega)).trans m2
          have n3 := (hb5.cell (p := ⟨w.heap.size + 1 + 1, 0, none⟩) (by show w.heap.size + 1 + 1 < _; omega)).trans m3
          have n4 := (hb5.frozen (p := ⟨w.heap.size + 1 + 1, 0, none⟩) (by show w.heap.size + 1 + 1 < _; omega)).trans m4
          have hz5 : w.heap.size + 1 + 1 < w5.heap.size := by have := hb5.size; omega
          have HB5 := Hid.mk hbx
          clear hbx m0 m1 m2 m3 m4 hz4 HB4
          have HT9' := Hid.mk (HT9.out.below hb5)
          have HT11 := Hid.mk ht11
          clear ht11 hb5 HT9
          go_wp2_with (first | (go_at_call 15; refine (HS3.out _ _ HB5.out n2).mono ?_; rintro e w6 ⟨c', r', rfl, hcn, hrn, hb6⟩; obtain ⟨c'a, c'c, rfl⟩ := own_slice hcn.1; obtain ⟨r'a, r'c, rfl⟩ := rowsNew_slice hrn; have o0 := (hb6.cell (p := ⟨w.heap.size, 0, none⟩) (by show w.heap.size < _; omega)).trans n0; have hy6 : w.heap.size < w6.heap.size := (by have := hb6.size; omega); have hb06 := bel_then HB5.out hb6) | (go_at_call 17; fail))
          obtain ⟨w7, hw7⟩ : ∃ x, x = w6.alloc (.cells #[.slice c'a cs.length c'c, .slice r'a rz.length r'c] 25) := ⟨_, rfl⟩
          rw [← hw7]
          have hb7 : Below w5.heap.size w5 w7 := by rw [hw7]; exact bel_box hb6 _
          have ht13 : TabIs w7 w6.heap.size cs rz := by rw [hw7]; exact tab_laid hcn hrn rfl
          have HT9 := Hid.mk (HT9'.out.below hb7)
          have HT11' := Hid.mk (HT11.out.below hb7)
          have HT13 := Hid.mk ht13
          clear hcn hrn o0 hy6 hb06 hw7 hb6 ht13 HT9' HT11
          have hbx := bel_then HB5.out hb7
          have o0 := (hb7.cell (p := ⟨w.heap.size, 0, none⟩) (by show w.heap.size < _; omega)).trans n0
          have o1 := (hb7.cell (p := ⟨w.heap.size, 1, none⟩) (by show w.heap.size < _; omega)).trans n1
          have o2 := (hb7.cell (p := ⟨w.heap.size + 1, 0, none⟩) (by show w.heap.size + 1 < _; omega)).trans n2
          have o3 := (hb7.cell (p := ⟨w.heap.size + 1 + 1, 0, none⟩) (by show w.heap.size + 1 + 1 < _; omega)).trans n3
          have o4 := (hb7.frozen (p := ⟨w.heap.size + 1 + 1, 0, none⟩) (by show w.heap.size + 1 + 1 < _; omega)).trans n4
          have hz7 : w.heap.size + 1 + 1 < w7.heap.size := by have := hb7.size; omega
          have HB7 := Hid.mk hbx
          clear hbx n0 n1 n2 n3 n4 hz5 HB5
          clear hb7
          generalize w6.heap.size = b13 at *
          have hIX := indexSet_in cb co cs.length vcp cs col (w.heap.size + 1) w7 rfl (by have := HRL.out.2.1; omega) (Nat.lt_of_lt_of_le HCA.out.1 HB7.out.size) (HCA.out.2.below HB7.out HCA.out.1) o2 (by omega)
          rw [show placeI cs col.data.toList = (i : Int) by rw [placeI, HG.out]] at hIX
          refine hIX.mono ?_
          clear hIX
          rintro e w8 ⟨rfl, hb8⟩
          obtain ⟨x9, y9, p0, p1, pl, pc, pr⟩ := HT9.out
          obtain ⟨x9a, x9c, rfl, -⟩ := id pc
          obtain ⟨y9a, y9c, rfl, -⟩ := id pr
          have q0 := fun o => (bel_box hb8 o |>.cell (p := ⟨b9, 0, none⟩) pl).trans p0
          have q1 := fun o => (bel_box hb8 o |>.cell (p := ⟨b9, 1, none⟩) pl).trans p1
          have q2 := fun o => (bel_box hb8 o |>.cell (p := ⟨w.heap.size, 0, none⟩) (by show w.heap.size < _; omega)).trans o0
          have q3 := fun o => (bel_box hb8 o |>.cell (p := ⟨w.heap.size, 1, none⟩) (by show w.heap.size < _; omega)).trans o1
          have HB8 := Hid.mk hb8
          have HP := Hid.mk (And.intro pc pr)
          clear p0 p1 pl pc pr hb8
          go_wp2_with (go_at_call 10; fail)
          obtain ⟨w9, hw9⟩ : ∃ x, x = w8.alloc (.cells #[.int .i64 (i : Int)] 3) := ⟨_, rfl⟩
          rw [← hw9]
          have hb9 : Below w7.heap.size w7 w9 := by rw [hw9]; exact bel_box HB8.out _
          have kc : w9.cell? ⟨w8.heap.size, 0, none⟩ = some (.int .i64 (i : Int)) := by rw [hw9]; simp
          have kl : w8.heap.size < w9.heap.size := by rw [hw9]; simp
          have HB8' := Hid.mk HB8.out
          clear q0 q1 q2 q3 hw9 HB8
          have hkN : w.heap.size + 1 + 1 < w8.heap.size := by have := HB8'.out.size; omega
          clear HB8'
          generalize w8.heap.size = kb at *
          have HX9 := Hid.mk (And.intro (HP.out.1.below hb9) (HP.out.2.below hb9))
          have HT11 := Hid.mk (HT11'.out.below hb9)
          have HT13' := Hid.mk (HT13.out.below hb9)
          clear HP HT11' HT13 HT9
          have hbx := bel_then HB7.out hb9
          have k0 := (hb9.cell (p := ⟨w.heap.size, 0, none⟩) (by show w.heap.size < _; omega)).trans o0
          have k1 := (hb9.cell (p := ⟨w.heap.size, 1, none⟩) (by show w.heap.size < _; omega)).trans o1
          have k2 := (hb9.cell (p := ⟨w.heap.size + 1, 0, none⟩) (by show w.heap.size + 1 < _; omega)).trans o2
          have k3 := (hb9.cell (p := ⟨w.heap.size + 1 + 1, 0, none⟩) (by show w.heap.size + 1 + 1 < _; omega)).trans o3
          have k4 := (hb9.frozen (p := ⟨w.heap.size + 1 + 1, 0, none⟩) (by show w.heap.size + 1 + 1 < _; omega)).trans o4
          have hz9 : w.heap.size + 1 + 1 < w9.heap.size := by have := hb9.size; omega
          have HB9 := Hid.mk hbx
          clear hbx o0 o1 o2 o3 o4 hz7 HB7
          clear hb9
          have HL8 := Hid.mk (show cs.length ≤ 60 ∧ rs.length ≤ 65 ∧ (∀ r ∈ rs, r.length ≤ 60) from ⟨by have := HRL.out.2.1; omega, by have := HRL.out.2.2.1; omega, fun r hr' => by have := HRL.out.2.2.2 r hr'; have := HRL.out.2.1; omega⟩)
          refine (same_any _ _ _ _ cs rs w9 HX9.out.1 HX9.out.2 (HCR.out.1.below HB9.out) (HCR.out.2.below HB9.out) HL8.out.1 HL8.out.2.1 HL8.out.2.2).mono ?_
          rintro e w10 ⟨rfl, hb10⟩
          have kc' := (hb10.cell (p := ⟨kb, 0, none⟩) kl).trans kc
          have kl' : kb < w10.heap.size := Nat.lt_of_lt_of_le kl hb10.size
          have HT11' := Hid.mk (HT11.out.below hb10)
          have HT13 := Hid.mk (HT13'.out.below hb10)
          clear HX9 HT11 HT13' kc kl
          have hbx := bel_then HB9.out hb10
          have m0 := (hb10.cell (p := ⟨w.heap.size, 0, none⟩) (by show w.heap.size < _; omega)).trans k0
          have m1 := (hb10.cell (p := ⟨w.heap.size, 1, none⟩) (by show w.heap.size < _; omega)).trans k1
          have m2 := (hb10.cell (p := ⟨w.heap.size + 1, 0, none⟩) (by show w.heap.size + 1 < _; omega)).trans k2
          have m3 := (hb10.cell (p := ⟨w.heap.size + 1 + 1, 0, none⟩) (by show w.heap.size + 1 + 1 < _; omega)).trans k3
          have m4 := (hb10.frozen (p := ⟨w.heap.size + 1 + 1, 0, none⟩) (by show w.heap.size + 1 + 1 < _; omega)).trans k4
          have hz10 : w.heap.size + 1 + 1 < w10.heap.size := by have := hb10.size; omega
          have HB10 := Hid.mk hbx
          clear hbx k0 k1 k2 k3 k4 hz9 HB9
          clear hb10
          obtain ⟨x9, y9, p0, p1, pl, pc, pr⟩ := HT11'.out
          obtain ⟨x9a, x9c, rfl, -⟩ := id pc
          obtain ⟨y9a, y9c, rfl, -⟩ := id pr
          have HP := Hid.mk (And.intro pc pr)
          clear pc pr
          go_wp2_with (go_at_call 10; fail)
          refine (same_any _ _ _ _ cs rs w10 HP.out.1 HP.out.2 (HCR.out.1.below HB10.out) (HCR.out.2.below HB10.out) HL8.out.1 HL8.out.2.1 HL8.out.2.2).mono ?_
          rintro e w11 ⟨rfl, hb11⟩
          have kc := (hb11.cell (p := ⟨kb, 0, none⟩) kl').trans kc'
          have kl : kb < w11.heap.size := Nat.lt_of_lt_of_le kl' hb11.size
          have HT13' := Hid.mk (HT13.out.below hb11)
          clear HP HT13 kc' kl' HT11' p0 p1 pl
          have hbx := bel_then HB10.out hb11
          have n0 := (hb11.cell (p := ⟨w.heap.size, 0, none⟩) (by show w.heap.size < _; omega)).trans m0
          have n1 := (hb11.cell (p := ⟨w.heap.size, 1, none⟩) (by show w.heap.size < _; omega)).trans m1
          have n2 := (hb11.cell (p := ⟨w.heap.size + 1, 0, none⟩) (by show w.heap.size + 1 < _; omega)).trans m2
          have n3 := (hb11.cell (p := ⟨w.heap.size + 1 + 1, 0, none⟩) (by show w.heap.size + 1 + 1 < _; omega)).trans m3
          have n4 := (hb11.frozen (p := ⟨w.heap.size + 1 + 1, 0, none⟩) (by show w.heap.size + 1 + 1 < _; omega)).trans m4
          have hz11 : w.heap.size + 1 + 1 < w11.heap.size := by have := hb11.size; omega
          have HB11 := Hid.mk hbx
          clear hbx m0 m1 m2 m3 m4 hz10 HB10
          clear hb11
          obtain ⟨x9, y9, p0, p1, pl, pc, pr⟩ := HT13'.out
          obtain ⟨x9a, x9c, rfl, -⟩ := id pc
          obtain ⟨y9a, y9c, rfl, -⟩ := id pr
          have hHA := hasR4_any kb i _ rz w11 pr HZL.out.2 kc kl HZL.out.1
          rw [HZ.out] at hHA
          have HHA := Hid.mk hHA
          clear pc pr hHA
          go_wp2_with (go_at_call 19; fail)
          refine HHA.out.mono ?_
          rintro e w12 ⟨rfl, hb12⟩
          have kc' := (hb12.cell (p := ⟨kb, 0, none⟩) kl).trans kc
          have kl' : kb < w12.heap.size := Nat.lt_of_lt_of_le kl hb12.size
          clear HHA HT13' kc kl p0 p1 pl
          have hbx := bel_then HB11.out hb12
          have o0 := (hb12.cell (p := ⟨w.heap.size, 0, none⟩) (by show w.heap.size < _; omega)).trans n0
          have o1 := (hb12.cell (p := ⟨w.heap.size, 1, none⟩) (by show w.heap.size < _; omega)).trans n1
          have o2 := (hb12.cell (p := ⟨w.heap.size + 1, 0, none⟩) (by show w.heap.size + 1 < _; omega)).trans n2
          have o3 := (hb12.cell (p := ⟨w.heap.size + 1 + 1, 0, none⟩) (by show w.heap.size + 1 + 1 < _; omega)).trans n3
          have o4 := (hb12.frozen (p := ⟨w.heap.size + 1 + 1, 0, none⟩) (by show w.heap.size + 1 + 1 < _; omega)).trans n4
          have hz12 : w.heap.size + 1 + 1 < w12.heap.size := by have := hb12.size; omega
          have HB12 := Hid.mk hbx
          clear hbx n0 n1 n2 n3 n4 hz11 HB11
          clear hb12
          go_wp2_with (go_at_call 21; refine (HPK.out _).mono ?_; rintro e w12' ⟨⟨m, rfl, hm0, hm1⟩, rfl⟩)
          obtain ⟨w13, hw13⟩ : ∃ x, x = w12'.setCell ⟨w.heap.size + 1 + 1, 0, none⟩ (.int .i64 m) := ⟨_, rfl⟩
          rw [← hw13]
          have t0 : w13.cell? ⟨w.heap.size, 0, none⟩ = some (.slice (some ⟨cb, co, none⟩) cs.length vcp) := by rw [hw13, World.cell?_setCell_other _ _ _ _ (by intro e; simp only [Addr.mk.injEq] at e; omega)]; exact o0
          have t1 : w13.cell? ⟨w.heap.size, 1, none⟩ = some (.slice ra rs.length rcp) := by rw [hw13, World.cell?_setCell_other _ _ _ _ (by intro e; simp only [Addr.mk.injEq] at e; omega)]; exact o1
          have t2 : w13.cell? ⟨w.heap.size + 1, 0, none⟩ = some (.string col) := by rw [hw13, World.cell?_setCell_other _ _ _ _ (by intro e; simp only [Addr.mk.injEq] at e; omega)]; exact o2
          have t3 : w13.cell? ⟨w.heap.size + 1 + 1, 0, none⟩ = some (.int .i64 m) := by rw [hw13]; exact World.cell?_setCell_same _ _ _ o3
          have kc : w13.cell? ⟨kb, 0, none⟩ = some (.int .i64 (i : Int)) := by rw [hw13, World.cell?_setCell_other _ _ _ _ (by intro e; simp only [Addr.mk.injEq] at e; omega)]; exact kc'
          have kl : kb < w13.heap.size := by rw [hw13]; simpa using kl'
          have hz13 : w.heap.size + 1 + 1 < w13.heap.size := by rw [hw13]; simpa using hz12
          have hb13 : Below w.heap.size w w13 := by rw [hw13]; exact HB12.out.setCell (by show w.heap.size ≤ w.heap.size + 1 + 1; omega) _
          have HB13 := Hid.mk hb13
          clear o0 o1 o2 o3 o4 kc' kl' hz12 HB12 hb13 hw13
          by_cases hok : ∀ r ∈ rs, inNum (setV cs (jset 0 ⟨#[43]⟩ col (numA m)) r)
          · have hS4m := HS4.out m hm0 hm1 hok
            have hS6m := HS6.out m hm0 hm1 hok
            rw [HEQ.out m hok] at hS6m
            obtain ⟨rm, hrm⟩ : ∃ rm, rs.map (setR cs (jset 0 ⟨#[43]⟩ col (numA m)) i) = rm := ⟨_, rfl⟩
            rw [hrm] at hS4m hS6m
            have HS4m := Hid.mk hS4m
            have HS6m := Hid.mk hS6m
            clear hS4m hS6m hrm hok HS4 HS5 HS6 HEQ HOV
            go_cut [16, 10] (fun p q wx => q = .bool true ∧ ∃ b : Nat, p = .pointer (some ⟨b, 0, none⟩) ∧ TabIs wx b cs rm ∧ Below w13.heap.size w13 wx)
            case first =>
              go_region_held3 (fun w' => w'.cell? ⟨w.heap.size, 0, none⟩ = some (.slice (some ⟨cb, co, none⟩) cs.length vcp) ∧ w'.cell? ⟨w.heap.size, 1, none⟩ = some (.slice ra rs.length rcp) ∧ w'.cell? ⟨w.heap.size + 1 + 1, 0, none⟩ = some (.int .i64 m))
                (exact keep3 (W := w13) (by repeat' (first | with_reducible exact hx2 | with_reducible exact hx1 | with_reducible exact Below.refl _ _ | with_reducible refine Below.drew ?_ | with_reducible refine bel_box ?_ _ | with_reducible refine Below.setCell ?_ ?_ _ | (show w13.heap.size ≤ _; simp; done) | (show w13.heap.size ≤ _; simp; omega))) t0 t1 t3)
                (first | (go_at_call 16; refine (HNUM.out m _).mono ?_; rintro e w1' ⟨rfl, hb1⟩; have hx1 := bel_then (show Below w13.heap.size w13 _ from (by repeat' (first | with_reducible exact hx2 | with_reducible exact hx1 | with_reducible exact Below.refl _ _ | with_reducible refine Below.drew ?_ | with_reducible refine bel_box ?_ _ | with_reducible refine Below.setCell ?_ ?_ _ | (show w13.heap.size ≤ _; simp; done) | (show w13.heap.size ≤ _; simp; omega)))) hb1; have hs1 := hx1.size; (first | (with_reducible have za0 := Z2.below (Z2.drew (Z2.new (W := w13) rfl)) hb1) | skip); (try obtain ⟨yza00, yza01, yza02, yza03, yza04⟩ := id za0)) | (go_at_call 15; refine (HS4m.out _ _ (bel_then HB13.out (show Below w13.heap.size w13 _ from (by repeat' (first | with_reducible exact hx2 | with_reducible exact hx1 | with_reducible exact Below.refl _ _ | with_reducible refine Below.drew ?_ | with_reducible refine bel_box ?_ _ | with_reducible refine Below.setCell ?_ ?_ _ | (show w13.heap.size ≤ _; simp; done) | (show w13.heap.size ≤ _; simp; omega))))) ((Below.cell (show Below w13.heap.size w13 _ from (by repeat' (first | with_reducible exact hx2 | with_reducible exact hx1 | with_reducible exact Below.refl _ _ | with_reducible refine Below.drew ?_ | with_reducible refine bel_box ?_ _ | with_reducible refine Below.setCell ?_ ?_ _ | (show w13.heap.size ≤ _; simp; done) | (show w13.heap.size ≤ _; simp; omega)))) (p := ⟨w.heap.size + 1, 0, none⟩) (by show w.heap.size + 1 < _; omega)).trans t2)).mono ?_; rintro e w2' ⟨c', r', rfl, hcn, hrn, hb2⟩; obtain ⟨c'a, c'c, rfl⟩ := own_slice hcn.1; obtain ⟨r'a, r'c, rfl⟩ := rowsNew_slice hrn; have hx2 := bel_then (show Below w13.heap.size w13 _ from (by repeat' (first | with_reducible exact hx2 | with_reducible exact hx1 | with_reducible exact Below.refl _ _ | with_reducible refine Below.drew ?_ | with_reducible refine bel_box ?_ _ | with_reducible refine Below.setCell ?_ ?_ _ | (show w13.heap.size ≤ _; simp; done) | (show w13.heap.size ≤ _; simp; omega)))) hb2; have hs2 := hx2.size; (first | (with_reducible have zb0 := Z2.below za0 hb2) | skip); (first | (with_reducible have zb1 := Z2.below (Z2.new (W := w1') rfl) hb2) | skip); (try obtain ⟨yzb00, yzb01, yzb02, yzb03, yzb04⟩ := id zb0); (try obtain ⟨yzb10, yzb11, yzb12, yzb13, yzb14⟩ := id zb1)))
              all_goals go_wp2_with fail
              all_goals go_meet
              all_goals refine ⟨rfl, _, rfl, ?_, (by repeat' (first | with_reducible exact hx2 | with_reducible exact hx1 | with_reducible exact Below.refl _ _ | with_reducible refine Below.drew ?_ | with_reducible refine bel_box ?_ _ | with_reducible refine Below.setCell ?_ ?_ _ | (show w13.heap.size ≤ _; simp; done) | (show w13.heap.size ≤ _; simp; omega)))⟩
              all_goals first | with_reducible exact tab_put zb0 hcn hrn (by first | (simp; done) | (simp; omega) | omega) | with_reducible exact tab_put zb1 hcn hrn (by first | (simp; done) | (simp; omega) | omega) | with_reducible exact tab_laid hcn hrn rfl
            case rest =>
              obtain ⟨rfl, b16, rfl, ht16, hb14⟩ := hcut
              obtain ⟨w14, hw14⟩ : ∃ x, x = wc := ⟨_, rfl⟩
              subst hw14
              have u0 := (hb14.cell (p := ⟨w.heap.size, 0, none⟩) (by show w.heap.size < _; omega)).trans t0
              have u1 := (hb14.cell (p := ⟨w.heap.size, 1, none⟩) (by show w.heap.size < _; omega)).trans t1
              have u2 := (hb14.cell (p := ⟨w.heap.size + 1, 0, none⟩) (by show w.heap.size + 1 < _; omega)).trans t2
              have u3 := (hb14.cell (p := ⟨w.heap.size + 1 + 1, 0, none⟩) (by show w.heap.size + 1 + 1 < _; omega)).trans t3
              have hz14 : w.heap.size + 1 + 1 < w14.heap.size := by have := hb14.size; omega
              have HB14 := Hid.mk (bel_then HB13.out hb14)
              obtain ⟨x16, y16, p0, p1, pl, pc, pr⟩ := ht16
              obtain ⟨x9a, x9c, rfl, -⟩ := id pc
              obtain ⟨y9a, y9c, rfl, -⟩ := id pr
              have HP := Hid.mk (And.intro pc pr)
              clear t0 t1 t2 t3 hz13 HB13 hb14 pc pr kc kl
              go_wp2_with fail
              go_cut [17, 10] (fun p q wx => q = .bool true ∧ ∃ b : Nat, p = .pointer (some ⟨b, 0, none⟩) ∧ TabIs wx b cs rs ∧ Below w14.heap.size w14 wx)
              case first =>
                go_region_held3 (fun w' => w'.cell? ⟨b16, 0, none⟩ = some (.slice x9a cs.length x9c) ∧ w'.cell? ⟨b16, 1, none⟩ = some (.slice y9a rm.length y9c) ∧ w'.cell? ⟨w.heap.size + 1 + 1, 0, none⟩ = some (.int .i64 m))
                  (exact keep3 (W := w14) (by repeat' (first | with_reducible exact hx2 | with_reducible exact hx1 | with_reducible exact Below.refl _ _ | with_reducible refine Below.drew ?_ | with_reducible refine bel_box ?_ _ | with_reducible refine Below.setCell ?_ ?_ _ | (show w14.heap.size ≤ _; simp; done) | (show w14.heap.size ≤ _; simp; omega))) p0 p1 u3)
                  (first | (go_at_call 16; refine (HNUM.out m _).mono ?_; rintro e w1' ⟨rfl, hb1⟩; have hx1 := bel_then (show Below w14.heap.size w14 _ from (by repeat' (first | with_reducible exact hx2 | with_reducible exact hx1 | with_reducible exact Below.refl _ _ | with_reducible refine Below.drew ?_ | with_reducible refine bel_box ?_ _ | with_reducible refine Below.setCell ?_ ?_ _ | (show w14.heap.size ≤ _; simp; done) | (show w14.heap.size ≤ _; simp; omega)))) hb1; have hs1 := hx1.size; (first | (with_reducible have za0 := Z2.below (Z2.drew (Z2.new (W := w14) rfl)) hb1) | skip); (try obtain ⟨yza00, yza01, yza02, yza03, yza04⟩ := id za0)) | (go_at_call 15; refine (HS6m.out _ _ _ _ ((Below.cell (show Below w14.heap.size w14 _ from (by repeat' (first | with_reducible exact hx2 | with_reducible exact hx1 | with_reducible exact Below.refl _ _ | with_reducible refine Below.drew ?_ | with_reducible refine bel_box ?_ _ | with_reducible refine Below.setCell ?_ ?_ _ | (show w14.heap.size ≤ _; simp; done) | (show w14.heap.size ≤ _; simp; omega)))) (p := ⟨w.heap.size + 1, 0, none⟩) (by show w.heap.size + 1 < _; omega)).trans u2) (HP.out.1.below (show Below w14.heap.size w14 _ from (by repeat' (first | with_reducible exact hx2 | with_reducible exact hx1 | with_reducible exact Below.refl _ _ | with_reducible refine Below.drew ?_ | with_reducible refine bel_box ?_ _ | with_reducible refine Below.setCell ?_ ?_ _ | (show w14.heap.size ≤ _; simp; done) | (show w14.heap.size ≤ _; simp; omega))))) (HP.out.2.below (show Below w14.heap.size w14 _ from (by repeat' (first | with_reducible exact hx2 | with_reducible exact hx1 | with_reducible exact Below.refl _ _ | with_reducible refine Below.drew ?_ | with_reducible refine bel_box ?_ _ | with_reducible refine Below.setCell ?_ ?_ _ | (show w14.heap.size ≤ _; simp; done) | (show w14.heap.size ≤ _; simp; omega)))))).mono ?_; rintro e w2' ⟨c', r', rfl, hcn, hrn, hb2⟩; obtain ⟨c'a, c'c, rfl⟩ := own_slice hcn.1; obtain ⟨r'a, r'c, rfl⟩ := rowsNew_slice hrn; have hx2 := bel_then (show Below w14.heap.size w14 _ from (by repeat' (first | with_reducible exact hx2 | with_reducible exact hx1 | with_reducible exact Below.refl _ _ | with_reducible refine Below.drew ?_ | with_reducible refine bel_box ?_ _ | with_reducible refine Below.setCell ?_ ?_ _ | (show w14.heap.size ≤ _; simp; done) | (show w14.heap.size ≤ _; simp; omega)))) hb2; have hs2 := hx2.size; (first | (with_reducible have zb0 := Z2.below za0 hb2) | skip); (first | (with_reducible have zb1 := Z2.below (Z2.new (W := w1') rfl) hb2) | skip); (try obtain ⟨yzb00, yzb01, yzb02, yzb03, yzb04⟩ := id zb0); (try obtain ⟨yzb10, yzb11, yzb12, yzb13, yzb14⟩ := id zb1)))
                all_goals go_wp2_with fail
                all_goals go_meet
                all_goals refine ⟨rfl, _, rfl, ?_, (by repeat' (first | with_reducible exact hx2 | with_reducible exact hx1 | with_reducible exact Below.refl _ _ | with_reducible refine Below.drew ?_ | with_reducible refine bel_box ?_ _ | with_reducible refine Below.setCell ?_ ?_ _ | (show w14.heap.size ≤ _; simp; done) | (show w14.heap.size ≤ _; simp; omega)))⟩
                all_goals first | with_reducible exact tab_put zb0 hcn hrn (by first | (simp; done) | (simp; omega) | omega) | with_reducible exact tab_put zb1 hcn hrn (by first | (simp; done) | (simp; omega) | omega) | with_reducible exact tab_laid hcn hrn rfl
              case rest =>
                obtain ⟨rfl, b17, rfl, ht17, hb15⟩ := hcut
                obtain ⟨w15, hw15⟩ : ∃ x, x = wc := ⟨_, rfl⟩
                subst hw15
                have v0 := (hb15.cell (p := ⟨w.heap.size, 0, none⟩) (by show w.heap.size < _; omega)).trans u0
                have v1 := (hb15.cell (p := ⟨w.heap.size, 1, none⟩) (by show w.heap.size < _; omega)).trans u1
                have hz15 : w.heap.size < w15.heap.size := by have := hb15.size; omega
                have HB15 := Hid.mk (bel_then HB14.out hb15)
                obtain ⟨x17, y17, r0, r1, rl, rc, rr⟩ := ht17
                obtain ⟨x7a, x7c, rfl, -⟩ := id rc
                obtain ⟨y7a, y7c, rfl, -⟩ := id rr
                have HQ := Hid.mk (And.intro rc rr)
                clear u0 u1 u2 u3 hz14 HB14 hb15 rc rr p0 p1 pl
                go_wp2_with (go_at_call 10; refine (same_any _ _ _ _ cs rs w15 HQ.out.1 HQ.out.2 (HCR.out.1.below HB15.out) (HCR.out.2.below HB15.out) HL8.out.1 HL8.out.2.1 HL8.out.2.2).mono ?_; rintro e w16 ⟨rfl, hb16⟩)
                go_ret
                exact ⟨rfl, bel_then HB15.out hb16⟩
          · have hno : ∃ r ∈ rs, ¬ inNum (setV cs (jset 0 ⟨#[43]⟩ col (numA m)) r) := by
              obtain ⟨r, h⟩ := Classical.not_forall.1 hok
              obtain ⟨h1, h2⟩ := Classical.not_imp.1 h
              exact ⟨r, h1, h2⟩
            have HS5m := Hid.mk (HS5.out m hm0 hm1 hno)
            have HOVm := Hid.mk (HOV.out m hm0 hno)
            clear hok hno HS4 HS5 HS6 HEQ HOV
            go_cut [16, 10] (fun p q wx => q = .bool false ∧ Below w13.heap.size w13 wx)
            case first =>
              go_region_held3 (fun w' => w'.cell? ⟨w.heap.size, 0, none⟩ = some (.slice (some ⟨cb, co, none⟩) cs.length vcp) ∧ w'.cell? ⟨w.heap.size, 1, none⟩ = some (.slice ra rs.length rcp) ∧ w'.cell? ⟨w.heap.size + 1 + 1, 0, none⟩ = some (.int .i64 m))
                (exact keep3 (W := w13) (by repeat' (first | with_reducible exact hx2 | with_reducible exact hx1 | with_reducible exact Below.refl _ _ | with_reducible refine Below.drew ?_ | with_reducible refine bel_box ?_ _ | with_reducible refine Below.setCell ?_ ?_ _ | (show w13.heap.size ≤ _; simp; done) | (show w13.heap.size ≤ _; simp; omega))) t0 t1 t3)
                (first | (go_at_call 16; refine (HNUM.out m _).mono ?_; rintro e w1' ⟨rfl, hb1⟩; have hx1 := bel_then (show Below w13.heap.size w13 _ from (by repeat' (first | with_reducible exact hx2 | with_reducible exact hx1 | with_reducible exact Below.refl _ _ | with_reducible refine Below.drew ?_ | with_reducible refine bel_box ?_ _ | with_reducible refine Below.setCell ?_ ?_ _ | (show w13.heap.size ≤ _; simp; done) | (show w13.heap.size ≤ _; simp; omega)))) hb1; have hs1 := hx1.size; (first | (with_reducible have za0 := Z2.below (Z2.drew (Z2.new (W := w13) rfl)) hb1) | skip); (try obtain ⟨yza00, yza01, yza02, yza03, yza04⟩ := id za0)) | (go_at_call 15; refine (HS5m.out _ _ (bel_then HB13.out (show Below w13.heap.size w13 _ from (by repeat' (first | with_reducible exact hx2 | with_reducible exact hx1 | with_reducible exact Below.refl _ _ | with_reducible refine Below.drew ?_ | with_reducible refine bel_box ?_ _ | with_reducible refine Below.setCell ?_ ?_ _ | (show w13.heap.size ≤ _; simp; done) | (show w13.heap.size ≤ _; simp; omega))))) ((Below.cell (show Below w13.heap.size w13 _ from (by repeat' (first | with_reducible exact hx2 | with_reducible exact hx1 | with_reducible exact Below.refl _ _ | with_reducible refine Below.drew ?_ | with_reducible refine bel_box ?_ _ | with_reducible refine Below.setCell ?_ ?_ _ | (show w13.heap.size ≤ _; simp; done) | (show w13.heap.size ≤ _; simp; omega)))) (p := ⟨w.heap.size + 1, 0, none⟩) (by show w.heap.size + 1 < _; omega)).trans t2)).mono ?_; rintro e w2' ⟨rfl, hb2⟩; have hx2 := bel_then (show Below w13.heap.size w13 _ from (by repeat' (first | with_reducible exact hx2 | with_reducible exact hx1 | with_reducible exact Below.refl _ _ | with_reducible refine Below.drew ?_ | with_reducible refine bel_box ?_ _ | with_reducible refine Below.setCell ?_ ?_ _ | (show w13.heap.size ≤ _; simp; done) | (show w13.heap.size ≤ _; simp; omega)))) hb2; have hs2 := hx2.size; (first | (with_reducible have zb0 := Z2.below za0 hb2) | skip); (first | (with_reducible have zb1 := Z2.below (Z2.new (W := w1') rfl) hb2) | skip); (try obtain ⟨yzb00, yzb01, yzb02, yzb03, yzb04⟩ := id zb0); (try obtain ⟨yzb10, yzb11, yzb12, yzb13, yzb14⟩ := id zb1)))
              all_goals go_wp2_with fail
              all_goals go_meet
              all_goals exact ⟨rfl, (by repeat' (first | with_reducible exact hx2 | with_reducible exact hx1 | with_reducible exact Below.refl _ _ | with_reducible refine Below.drew ?_ | with_reducible refine bel_box ?_ _ | with_reducible refine Below.setCell ?_ ?_ _ | (show w13.heap.size ≤ _; simp; done) | (show w13.heap.size ≤ _; simp; omega)))⟩
            case rest =>
              obtain ⟨rfl, hb14⟩ := hcut
              obtain ⟨w14, hw14⟩ : ∃ x, x = wc := ⟨_, rfl⟩
              subst hw14
              have u0 := (hb14.cell (p := ⟨w.heap.size, 0, none⟩) (by show w.heap.size < _; omega)).trans t0
              have u1 := (hb14.cell (p := ⟨w.heap.size, 1, none⟩) (by show w.heap.size < _; omega)).trans t1
              have u2 := (hb14.cell (p := ⟨w.heap.size + 1, 0, none⟩) (by show w.heap.size + 1 < _; omega)).trans t2
              have u3 := (hb14.cell (p := ⟨w.heap.size + 1 + 1, 0, none⟩) (by show w.heap.size + 1 + 1 < _; omega)).trans t3
              have kc' := (hb14.cell (p := ⟨kb, 0, none⟩) kl).trans kc
              have kl' : kb < w14.heap.size := Nat.lt_of_lt_of_le kl hb14.size
              have hz14 : w.heap.size + 1 + 1 < w14.heap.size := by have := hb14.size; omega
              have HB14 := Hid.mk (bel_then HB13.out hb14)
              have hHA := hasR5_any kb (w.heap.size + 1 + 1) i m _ rs w14 (HCR.out.2.below HB14.out) HL8.out.2.1 kc' kl' (fun r hr' => by have := HRL.out.2.2.2 r hr'; have := HRL.out.2.1; have := HGI.out; omega) u3 hz14 ⟨hm0, by omega⟩
              rw [HOVm.out] at hHA
              have HHA := Hid.mk hHA
              clear t0 t1 t2 t3 hz13 HB13 hb14 kc kl hHA
              go_wp2_with (go_at_call 19; refine HHA.out.mono ?_; rintro e w15 ⟨rfl, hb15⟩)
              go_ret
              exact ⟨rfl, bel_then HB14.out hb15⟩
end Go.Proofs.YtlpomofaeeaneaaGreatDoor
