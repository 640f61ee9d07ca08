import Derived.Test.YtjceppinfjbegaaGreatDoorJonP
set_option linter.unusedSimpArgs false
set_option linter.unusedVariables false
namespace Go.Proofs.YtjceppinfjbegaaGreatDoor
open Go.RowKit
open Go.Sort (grow)

/-- What stays in place all along. -/
def Stj (w W : World) (vc vr vc2 vr2 : Value) (x y : ByteArray) : Prop := W.cell? ⟨w.heap.size, 0, none⟩ = some vc ∧ W.cell? ⟨w.heap.size, 1, none⟩ = some vr ∧ W.cell? ⟨w.heap.size + 1, 0, none⟩ = some vc2 ∧ W.cell? ⟨w.heap.size + 1, 1, none⟩ = some vr2 ∧ W.cell? ⟨w.heap.size + 2, 0, none⟩ = some (.string x) ∧ W.cell? ⟨w.heap.size + 3, 0, none⟩ = some (.string y) ∧ w.heap.size + 3 < W.heap.size ∧ Below w.heap.size w W
theorem Stj.below {w W W' : World} {vc vr vc2 vr2 : Value} {x y : ByteArray} (h : Stj w W vc vr vc2 vr2 x y) (hb : Below W.heap.size W W') : Stj w W' vc vr vc2 vr2 x y := by
  obtain ⟨c0, c1, c2, c3, c4, c5, z, h3⟩ := h
  have hs := hb.size
  exact ⟨(hb.cell (p := ⟨w.heap.size, 0, none⟩) (by show w.heap.size < _; omega)).trans c0, (hb.cell (p := ⟨w.heap.size, 1, none⟩) (by show w.heap.size < _; omega)).trans c1, (hb.cell (p := ⟨w.heap.size + 1, 0, none⟩) (by show w.heap.size + 1 < _; omega)).trans c2, (hb.cell (p := ⟨w.heap.size + 1, 1, none⟩) (by show w.heap.size + 1 < _; omega)).trans c3, (hb.cell (p := ⟨w.heap.size + 2, 0, none⟩) (by show w.heap.size + 2 < _; omega)).trans c4, (hb.cell (p := ⟨w.heap.size + 3, 0, none⟩) z).trans c5, by omega, bel_then h3 hb⟩
def fourBoxes (w : World) (vc vr vc2 vr2 : Value) (x y : ByteArray) : World := (((w.alloc (.cells #[vc, vr] 36)).alloc (.cells #[vc2, vr2] 36)).alloc (.cells #[.string x] 9)).alloc (.cells #[.string y] 9)
theorem four_st (w : World) (vc vr vc2 vr2 : Value) (x y : ByteArray) : Stj w (fourBoxes w vc vr vc2 vr2 x y) vc vr vc2 vr2 x y := by
  unfold fourBoxes
  have h1 := bel_box (bel_box (below_box (w.alloc (.cells #[vc, vr] 36)) (.cells #[vc2, vr2] 36)) (.cells #[.string x] 9)) (.cells #[.string y] 9)
  have h2 := bel_box (below_box ((w.alloc (.cells #[vc, vr] 36)).alloc (.cells #[vc2, vr2] 36)) (.cells #[.string x] 9)) (.cells #[.string y] 9)
  have h3 := below_box (((w.alloc (.cells #[vc, vr] 36)).alloc (.cells #[vc2, vr2] 36)).alloc (.cells #[.string x] 9)) (.cells #[.string y] 9)
  refine ⟨(h1.cell (p := ⟨w.heap.size, 0, none⟩) (by simp)).trans ?_, (h1.cell (p := ⟨w.heap.size, 1, none⟩) (by simp)).trans ?_, (h2.cell (p := ⟨w.heap.size + 1, 0, none⟩) (by simp)).trans ?_, (h2.cell (p := ⟨w.heap.size + 1, 1, none⟩) (by simp)).trans ?_, (h3.cell (p := ⟨w.heap.size + 2, 0, none⟩) (by simp)).trans ?_, ?_, by simp, bel_box (bel_box (bel_box (below_box _ _) _) _) _⟩
  all_goals (rw [World.cell?_alloc_at _ _ _ _ (by simp)]; rfl)
theorem strs_new2 (W : World) (x y : ByteArray) (H : Nat) (hH : H = W.heap.size) : StrsC (W.alloc (.cells #[.string x, .string y] 9)) (.slice (some ⟨H, 0, none⟩) 2 2) [x, y] := by
  refine ⟨some ⟨H, 0, none⟩, 2, rfl, Nat.le_refl _, by unfold maxLen; simp, Or.inr ⟨H, 0, rfl, by simp; omega, fun j hj => ?_⟩⟩
  rw [World.cell?_alloc_at _ _ _ _ hH]
  have h2 : j = 0 ∨ j = 1 := by simp at hj; omega
  rcases h2 with rfl | rfl <;> rfl
theorem sumR_step (q : Nat) (rs : List (List Vl)) (k : Nat) (h : k < rs.length) : sumR q (rs.take (k + 1)) = sumR q (rs.take k) + (vAt rs[k] q).2.1 := by
  unfold sumR
  rw [List.take_succ_eq_append_getElem h, List.map_append, List.sum_append]
  simp only [List.map_cons, List.map_nil, List.sum_cons, List.sum_nil, Int.add_zero]
theorem sumR_small (q : Nat) : ∀ (rs : List (List Vl)), (∀ r ∈ rs, inNum (vAt r q).2.1) → -(1000000000 * (rs.length : Int)) ≤ sumR q rs ∧ sumR q rs ≤ 1000000000 * (rs.length : Int)
  | [], _ => by simp [sumR]
  | r :: l, h => by
    have h1 := sumR_small q l (fun x hx => h x (by simp [hx]))
    have h2 := h r (by simp)
    unfold inNum at h2
    simp only [sumR, List.map_cons, List.sum_cons, List.length_cons] at h1 ⊢
    push_cast
    omega
def jGrp (v : Value) : Jb := ⟨0, 8, .slice none 0 0, .slice none 0 0, v, ⟨#[115, 117, 109]⟩, (⟨#[]⟩, 0, 0, ⟨#[]⟩), (⟨#[]⟩, 0, 0, ⟨#[]⟩), 0⟩

theorem sumG_next (gs : List Gr) (k : Nat) (h : k < gs.length) : sumG (gs.take (k + 1)) = sumG (gs.take k) + gs[k].2 := by
  unfold sumG
  rw [List.take_succ_eq_append_getElem h, List.map_append, List.sum_append]
  simp only [List.map_cons, List.map_nil, List.sum_cons, List.sum_nil, Int.add_zero]
theorem sumG_small : ∀ (gs : List Gr), (∀ g ∈ gs, inNum g.2) → -(1000000000 * (gs.length : Int)) ≤ sumG gs ∧ sumG gs ≤ 1000000000 * (gs.length : Int)
  | [], _ => by simp [sumG]
  | g :: l, h => by
    have h1 := sumG_small l (fun x hx => h x (by simp [hx]))
    have h2 := h g (by simp)
    unfold inNum at h2
    simp only [sumG, List.map_cons, List.sum_cons, List.length_cons] at h1 ⊢
    push_cast
    omega
theorem cnt_out (rs qs : List (List Vl)) (p q k : Nat) (h : k < rs.length) : (joinL (rs.take (k + 1)) qs p q).length = (joinL (rs.take k) qs p q).length + (joinR rs[k] qs p q).length := by
  rw [joinL_step rs qs p q k h, List.length_append]
theorem cnt_yes (x : List Vl) (qs : List (List Vl)) (p q k : Nat) (h : k < qs.length) (e : vAt x p = vAt qs[k] q) : (joinR x (qs.take (k + 1)) p q).length = (joinR x (qs.take k) p q).length + 1 := by
  rw [joinR_step x qs p q k h, if_pos e, List.length_append]; rfl
theorem cnt_no (x : List Vl) (qs : List (List Vl)) (p q k : Nat) (h : k < qs.length) (e : ¬ vAt x p = vAt qs[k] q) : (joinR x (qs.take (k + 1)) p q).length = (joinR x (qs.take k) p q).length := by
  rw [joinR_step x qs p q k h, if_neg e, List.append_nil]
theorem grp_row (gs : List Gr) (k : Nat) (h : k < (grpRows gs).length) : ∃ h' : k < gs.length, (grpRows gs)[k] = [gs[k].1, (1, gs[k].2, ⟨#[]⟩)] := by
  unfold grpRows at h ⊢
  rw [List.length_map] at h
  exact ⟨h, by rw [List.getElem_map]⟩

set_option maxRecDepth 100000 in
set_option maxHeartbeats 6400000 in
theorem joins_any (vc vr vc2 vr2 : Value) (cs ds : List Cl) (rs qs : List (List Vl)) (x y : ByteArray) (w : World) (hc : ColsIs w vc cs) (hr : RowsIs w vr rs) (hc2 : ColsIs w vc2 ds) (hr2 : RowsC w vr2 qs) (hE : Env w) :
    Calls Tryz.prog 4 #[.agg #[vc, vr], .agg #[vc2, vr2], .string x, .string y] w fun e w' => e = .returned (.bool true) ∧ Below w.heap.size w w' := by
  have HS1 := Hid.mk (fun W (hW : Below w.heap.size w W) => small_any vc vr cs rs W (hc.below hW) (hr.below hW))
  have HS2 := Hid.mk (fun W (hW : Below w.heap.size w W) => small_any vc2 vr2 ds qs W (hc2.below hW) (hr2.is.below hW))
  have HDN := Hid.mk (fun W (hW : Below w.heap.size w W) => done_any W (hE.below hW))
  have HJ : Hid (∀ (cv : Value) (W : World) (H : Nat), Below w.heap.size w W → W.heap.size = H → TwoNames W cv x y → Calls Tryz.prog 19 #[.agg #[.int .i64 0, .int .i64 7, .slice none 0 0, .slice none 0 0, cv, .string ⟨#[]⟩, .string ⟨#[]⟩, .int .i64 0, .int .i64 0, .string ⟨#[]⟩, .string ⟨#[]⟩, .int .i64 0, .int .i64 0, .string ⟨#[]⟩, .int .i64 0], .slice (some ⟨H, 0, none⟩) 2 2] (W.alloc (.cells #[vc, vr, vc2, vr2] 36)) fun e w' => OneRes e w' W.heap.size (joinNo (cs, rs) (ds, qs) x y = 0) (besL cs ds (pOf ds y), joinL rs qs (pOf cs x) (pOf ds y)) ∧ Below (W.alloc (.cells #[vc, vr, vc2, vr2] 36)).heap.size (W.alloc (.cells #[vc, vr, vc2, vr2] 36)) w') := Hid.mk (fun cv W H hW hH hN => one_join cv vc vr vc2 vr2 (cs, rs) (ds, qs) x y W H hH hN (hc.below hW) (hr.below hW) (hc2.below hW) (hr2.below hW))
  have HG : Hid (∀ (cv : Value) (W : World) (H : Nat), Below w.heap.size w W → W.heap.size = H → StrsC W cv [x, y] → Calls Tryz.prog 19 #[.agg #[.int .i64 0, .int .i64 8, .slice none 0 0, .slice none 0 0, cv, .string ⟨#[115, 117, 109]⟩, .string ⟨#[]⟩, .int .i64 0, .int .i64 0, .string ⟨#[]⟩, .string ⟨#[]⟩, .int .i64 0, .int .i64 0, .string ⟨#[]⟩, .int .i64 0], .slice (some ⟨H, 0, none⟩) 1 1] (W.alloc (.cells #[vc, vr] 36)) fun e w' => OneRes e w' W.heap.size (grpNo (cs, rs) x y = 0) (grpT (cs, rs) x y) ∧ Below (W.alloc (.cells #[vc, vr] 36)).heap.size (W.alloc (.cells #[vc, vr] 36)) w') := Hid.mk (fun cv W H hW hH hs => one_grp (jGrp cv) x y vc vr (cs, rs) W H hH (hc.below hW) (hr.below hW) rfl rfl hs)
  have HCR := Hid.mk (And.intro hc (And.intro hr (And.intro hc2 hr2)))
  obtain ⟨va, vcp, rfl, -⟩ := hc
  obtain ⟨ra, rcp, rfl, -⟩ := hr
  obtain ⟨va2, vcp2, rfl, -⟩ := hc2
  obtain ⟨ra2, rcp2, rfl, -⟩ := hr2
  have ST0 := Hid.mk (four_st w (.slice va cs.length vcp) (.slice ra rs.length rcp) (.slice va2 ds.length vcp2) (.slice ra2 qs.length rcp2) x y)
  clear hE
  have mixed : Tryz.prog.follows .mixedOrders = true := by kernel_rfl
  go_enter Tryz.func4, Tryz.ntmps4
  generalize smallB cs rs = g1 at *
  generalize smallB ds qs = g2 at *
  go_wp2_with (go_at_call 17; fail)
  refine (HS1.out _ (show Below w.heap.size w (fourBoxes w _ _ _ _ x y) from ST0.out.2.2.2.2.2.2.2)).mono ?_
  rintro e w1 ⟨rfl, hb1⟩
  have ST1 := Hid.mk (ST0.out.below hb1)
  clear hb1 ST0 HS1
  obtain ⟨m0, m1, m2, m3, m4, m5, m6, -⟩ := ST1.out
  have m6a : w.heap.size < w1.heap.size := by omega
  have m6b : w.heap.size + 1 < w1.heap.size := by omega
  have m6c : w.heap.size + 2 < w1.heap.size := by omega
  have ST1' := ST1
  cases g1
  · go_wp2
    go_ret
    exact ⟨rfl, ST1'.out.2.2.2.2.2.2.2⟩
  · go_wp2_with (go_at_call 17; fail)
    refine (HS2.out _ ST1.out.2.2.2.2.2.2.2).mono ?_
    rintro e w2 ⟨rfl, hb2⟩
    have ST2 := Hid.mk (ST1.out.below hb2)
    clear hb2 ST1 ST1' HS2 m0 m1 m2 m3 m4 m5 m6 m6a m6b m6c
    obtain ⟨m0, m1, m2, m3, m4, m5, m6, -⟩ := ST2.out
    cases g2
    · go_wp2
      go_ret
      exact ⟨rfl, ST2.out.2.2.2.2.2.2.2⟩
    · by_cases hx : 40 < x.size
      · have hxz : (40 : Int) < (x.size : Int) := by omega
        go_wp2
        go_ret
        exact ⟨rfl, ST2.out.2.2.2.2.2.2.2⟩
      · have hxz : ¬ ((40 : Int) < (x.size : Int)) := by omega
        by_cases hy : 40 < y.size
        · have hyz : (40 : Int) < (y.size : Int) := by omega
          go_wp2
          go_ret
          exact ⟨rfl, ST2.out.2.2.2.2.2.2.2⟩
        · have hyz : ¬ ((40 : Int) < (y.size : Int)) := by omega
          go_wp2_with (go_at_call 18; fail)
          refine (HDN.out _ ST2.out.2.2.2.2.2.2.2).mono ?_
          rintro e w4 ⟨rfl, hb4⟩
          have ST4 := Hid.mk (ST2.out.below hb4)
          clear hb4 ST2 HDN m0 m1 m2 m3 m4 m5 m6
          obtain ⟨m0, m1, m2, m3, m4, m5, m6, -⟩ := ST4.out
          have m6a : w.heap.size < w4.heap.size := by omega
          have m6b : w.heap.size + 1 < w4.heap.size := by omega
          have m6c : w.heap.size + 2 < w4.heap.size := by omega
          go_wp2_with (go_at_call 19; fail)
          clear m0 m1 m2 m3 m4 m5 m6 m6a m6b m6c
          refine (HJ.out _ (w4.alloc (.cells #[.string x, .string y] 9)) _ (bel_box ST4.out.2.2.2.2.2.2.2 _) (by simp) ⟨w4.heap.size, 0, 2, rfl, by simp, by rw [World.cell?_alloc_at _ _ _ _ rfl]; rfl, by rw [World.cell?_alloc_at _ _ _ _ rfl]; rfl⟩).mono ?_
          rintro e w5 ⟨hres, HB⟩
          have ST5 := Hid.mk (ST4.out.below (bel_then (bel_box (below_box w4 (.cells #[.string x, .string y] 9)) _) HB))
          clear HB HJ
          rcases hres with ⟨hok, xc, yc, rfl, hcn, hrn⟩ | ⟨hok, rfl⟩
          · obtain ⟨hrt, hrt', hje, hj60⟩ := joinNo_0 hok
            obtain ⟨j1, j2, j3, j4⟩ := right_len hrt
            obtain ⟨i1, i2, i3, i4⟩ := right_len hrt'
            obtain ⟨hp1, hp2⟩ := joinErr_0 hje
            have hpl := place_some hp1
            have hql := place_some hp2
            have HP1 := Hid.mk hp1
            have HP2 := Hid.mk hp2
            have hJ3 : rs.length ≤ 60 := j3
            have hI3 : qs.length ≤ 60 := i3
            have HJ4 := Hid.mk (show ∀ r ∈ rs, r.length = cs.length from j4)
            have HI4 := Hid.mk (show ∀ r ∈ qs, r.length = ds.length from i4)
            have HBS := Hid.mk (besL_len cs ds (pOf ds y) hql)
            have HJ60 := Hid.mk hj60
            obtain ⟨jxa, jxc, rfl⟩ := own_slice hcn.1
            obtain ⟨jya, jyc, rfl⟩ := rowsNew_slice hrn
            dsimp only at HP1 HP2 HBS HJ60 hpl hql
            obtain ⟨p, hpp⟩ : ∃ z, pOf cs x = z := ⟨_, rfl⟩
            obtain ⟨r, hrr⟩ : ∃ z, pOf ds y = z := ⟨_, rfl⟩
            dsimp only
            rw [hpp] at HP1 HJ60 hpl
            rw [hrr] at HP2 HBS HJ60 hql
            rw [hpp, hrr]
            obtain ⟨JL, hJL⟩ : ∃ z, (joinL rs qs p r).length = z := ⟨_, rfl⟩
            have HJL := Hid.mk hJL
            obtain ⟨JC, hJC⟩ : ∃ z, (besL cs ds r).length = z := ⟨_, rfl⟩
            rw [hJC] at HBS
            rw [hJL] at HJ60
            rw [hJL, hJC]
            obtain ⟨cb, co, vcq, hve, hcbl, hcat⟩ := cols_at HCR.out.1 j1
            simp only [Value.slice.injEq, true_and] at hve
            obtain ⟨rfl, rfl⟩ := hve
            obtain ⟨db, do', dcq, hve, hdbl, hdat⟩ := cols_at HCR.out.2.2.1 i1
            simp only [Value.slice.injEq, true_and] at hve
            obtain ⟨rfl, rfl⟩ := hve
            clear hok hrt hrt' hje hj60 hp1 hp2 hcn hrn hJL hJC hpp hrr j4 i4
            have hcl6 : cs.length ≤ 6 := j2
            have hdl6 : ds.length ≤ 6 := i2
            obtain ⟨m0, m1, m2, m3, m4, m5, m6, m7⟩ := ST5.out
            have m6a : w.heap.size < w5.heap.size := by omega
            have m6b : w.heap.size + 1 < w5.heap.size := by omega
            have m6c : w.heap.size + 2 < w5.heap.size := by omega
            have hmf : ∀ (fn : Fn) (first cap : Array Value) (w : World), (Instr.makeFunc fn first cap).run Tryz.prog w = .ok (.func fn first cap) w := fun _ _ _ _ => rfl
            go_wp2_with (go_at_call 20; fail)
            clear m0 m1 m2 m3 m4 m5 m6 m6a m6b m6c m7
            refine (indexJoin1_in cb co cs.length vcp cs x (w.heap.size + 2) (w5.alloc (.cells #[.slice jxa JC jxc, .slice jya JL jyc] 36)) rfl (by omega) (by have := ST5.out.2.2.2.2.2.2.1; have := ST5.out.2.2.2.2.2.2.2.size; simp; omega) (hcat.below (bel_box ST5.out.2.2.2.2.2.2.2 _) hcbl) (ST5.out.below (below_box _ _)).2.2.2.2.1 (by have := ST5.out.2.2.2.2.2.2.1; simp; omega)).mono ?_
            rintro e w5a ⟨rfl, hb5⟩
            rw [place_nat HP1.out]
            have ST5a := Hid.mk (ST5.out.below (bel_then (below_box w5 (.cells #[.slice jxa JC jxc, .slice jya JL jyc] 36)) hb5))
            have b0 : w5a.cell? ⟨w5.heap.size, 0, none⟩ = some (.slice jxa JC jxc) := (hb5.cell (p := ⟨w5.heap.size, 0, none⟩) (by simp)).trans (by rw [World.cell?_alloc_at _ _ _ _ rfl]; rfl)
            have b1 : w5a.cell? ⟨w5.heap.size, 1, none⟩ = some (.slice jya JL jyc) := (hb5.cell (p := ⟨w5.heap.size, 1, none⟩) (by simp)).trans (by rw [World.cell?_alloc_at _ _ _ _ rfl]; rfl)
            have hbl : w5.heap.size < w5a.heap.size := by have := hb5.size; simp at this; omega
            generalize w5.heap.size = jb at *
            clear hb5 ST5 hcat
            have HB01 := Hid.mk (And.intro b0 b1)
            clear b0 b1
            obtain ⟨m0, m1, m2, m3, m4, m5, m6, m7⟩ := ST5a.out
            have m6a : w.heap.size < w5a.heap.size := by omega
            have m6b : w.heap.size + 1 < w5a.heap.size := by omega
            have m6c : w.heap.size + 2 < w5a.heap.size := by omega
            go_wp2_with (go_at_call 20; fail)
            clear m0 m1 m2 m3 m4 m5 m6 m6a m6b m6c m7
            refine (indexJoin2_in db do' ds.length vcp2 ds y (w.heap.size + 3) w5a rfl (by omega) (by have := ST5a.out.2.2.2.2.2.2.1; have := ST5a.out.2.2.2.2.2.2.2.size; omega) (hdat.below ST5a.out.2.2.2.2.2.2.2 hdbl) ST5a.out.2.2.2.2.2.1 (by have := ST5a.out.2.2.2.2.2.2.1; omega)).mono ?_
            rintro e w7 ⟨rfl, hb7⟩
            rw [place_nat HP2.out]
            have ST7 := Hid.mk (ST5a.out.below hb7)
            have b0 : w7.cell? ⟨jb, 0, none⟩ = some (.slice jxa JC jxc) := (hb7.cell (p := ⟨jb, 0, none⟩) hbl).trans HB01.out.1
            have b1 : w7.cell? ⟨jb, 1, none⟩ = some (.slice jya JL jyc) := (hb7.cell (p := ⟨jb, 1, none⟩) hbl).trans HB01.out.2
            have hbl7 : jb < w7.heap.size := Nat.lt_of_lt_of_le hbl hb7.size
            clear hb7 ST5a hdat HB01 hbl
            obtain ⟨m0, m1, m2, m3, m4, m5, m6, m7⟩ := ST7.out
            have m6a : w.heap.size < w7.heap.size := by omega
            have m6b : w.heap.size + 1 < w7.heap.size := by omega
            clear m4 m5 m7
            have hpz : (p : Int) < (cs.length : Int) := Int.ofNat_lt.2 hpl
            have hrz : (r : Int) < (ds.length : Int) := Int.ofNat_lt.2 hql
            go_wp2
            go_loopg [13, 14] rs.length (fun g1 n i wr => ∃ (k N : Nat), k ≤ rs.length ∧ i = .int .i64 k ∧ rs.length - k ≤ g1 ∧ n = .int .i64 N ∧ N ≤ 10000 ∧ Aside (N = (joinL (rs.take k) qs p r).length ∧ Below w7.heap.size w7 wr))
            case atStart => exact ⟨0, 0, Nat.zero_le _, rfl, by omega, rfl, by omega, by simp [joinL], Below.refl _ _⟩
            case round =>
              obtain ⟨k, N, hk, rfl, hg, rfl, hN, HSS⟩ := hrel
              have ST9 := Hid.mk (ST7.out.below HSS.out.2)
              have b0' : wr.cell? ⟨jb, 0, none⟩ = some (.slice jxa JC jxc) := (HSS.out.2.cell (p := ⟨jb, 0, none⟩) hbl7).trans b0
              have b1' : wr.cell? ⟨jb, 1, none⟩ = some (.slice jya JL jyc) := (HSS.out.2.cell (p := ⟨jb, 1, none⟩) hbl7).trans b1
              have hbl9 : jb < wr.heap.size := Nat.lt_of_lt_of_le hbl7 HSS.out.2.size
              obtain ⟨n0, n1, n2, n3, n4, n5, n6, n7⟩ := ST9.out
              have n6a : w.heap.size < wr.heap.size := by omega
              have n6b : w.heap.size + 1 < wr.heap.size := by omega
              clear n4 n5 n7
              by_cases hlt : k < rs.length
              · as_aux_lemma =>
                  have hltz : (k : Int) < (rs.length : Int) := by omega
                  have HKL := Hid.mk (cnt_out rs qs p r k hlt)
                  have HJLL := Hid.mk (joinL_len (rs.take k) qs p r)
                  obtain ⟨X, hX⟩ : ∃ z, rs[k] = z := ⟨_, rfl⟩
                  have HX := Hid.mk hX
                  rw [hX] at HKL
                  clear hX
                  have hN' : N ≤ 3600 := by
                    have h1 := HJLL.out
                    rw [← HSS.out.1, List.length_take] at h1
                    have h2 : min k rs.length * qs.length ≤ 60 * 60 := Nat.mul_le_mul (by omega) hI3
                    omega
                  go_wp2
                  go_loopg [13, 15] qs.length (fun g2 n j wr2 => ∃ (t M : Nat), t ≤ qs.length ∧ j = .int .i64 t ∧ qs.length - t ≤ g2 ∧ n = .int .i64 M ∧ M ≤ 5000 ∧ Aside (M = N + (joinR X (qs.take t) p r).length ∧ Below w7.heap.size w7 wr2))
                  case atStart => exact ⟨0, N, Nat.zero_le _, rfl, by omega, rfl, by omega, by simp [joinR], HSS.out.2⟩
                  case round =>
                    clear n0 n1 n2 n3 n6 n6a n6b b0' b1' hbl9
                    obtain ⟨t, M, ht, rfl, hg2, rfl, hM, HMM⟩ := hrel
                    have STA := Hid.mk (ST7.out.below HMM.out.2)
                    obtain ⟨n0, n1, n2, n3, n4, n5, n6, n7⟩ := STA.out
                    have n6a : w.heap.size < wr.heap.size := by omega
                    have n6b : w.heap.size + 1 < wr.heap.size := by omega
                    clear n4 n5 n7
                    by_cases htl : t < qs.length
                    · have htlz : (t : Int) < (qs.length : Int) := by omega
                      obtain ⟨rb, ro, rc', hve, hrl, hrat⟩ := rowsS_at' HCR.out.2.1 (by omega)
                      simp only [Value.slice.injEq, true_and] at hve
                      obtain ⟨rfl, rfl⟩ := hve
                      obtain ⟨qb, qo, qc', hve, hqrl, hqat⟩ := rowsS_at' HCR.out.2.2.2.is (by omega)
                      simp only [Value.slice.injEq, true_and] at hve
                      obtain ⟨rfl, rfl⟩ := hve
                      have hlenx := HJ4.out _ (List.getElem_mem hlt)
                      have hleny := HI4.out _ (List.getElem_mem htl)
                      obtain ⟨xb, xo, xc', hxu, hxl, hxat⟩ := row_at' hrat hlt hlenx j1
                      obtain ⟨yb, yo, yc', hyu, hyl, hyat⟩ := row_at' hqat htl hleny i1
                      have hBW := STA.out.2.2.2.2.2.2.2
                      have hxu' := (hBW.cell (p := ⟨rb, ro + k, none⟩) hrl).trans hxu
                      have hyu' := (hBW.cell (p := ⟨qb, qo + t, none⟩) hqrl).trans hyu
                      obtain ⟨e0, e1, e2⟩ := (hxat.below hBW hxl) p (by rw [hlenx]; exact hpl)
                      obtain ⟨f0, f1, f2⟩ := (hyat.below hBW hyl) r (by rw [hleny]; exact hql)
                      have HV := Hid.mk (show vAt rs[k] p = rs[k][p]'(by rw [hlenx]; exact hpl) from vAt_of _)
                      have HVY := Hid.mk (show vAt qs[t] r = qs[t][r]'(by rw [hleny]; exact hql) from vAt_of _)
                      have hbk : rb < wr.heap.size := Nat.lt_of_lt_of_le hrl hBW.size
                      have hbk2 : qb < wr.heap.size := Nat.lt_of_lt_of_le hqrl hBW.size
                      have hbk3 : xb < wr.heap.size := Nat.lt_of_lt_of_le hxl hBW.size
                      have hbk4 : yb < wr.heap.size := Nat.lt_of_lt_of_le hyl hBW.size
                      obtain ⟨a, hax⟩ : ∃ a, rs[k][p]'(by rw [hlenx]; exact hpl) = a := ⟨_, rfl⟩
                      obtain ⟨b, hby⟩ : ∃ b, qs[t][r]'(by rw [hleny]; exact hql) = b := ⟨_, rfl⟩
                      rw [hax] at e0 e1 e2
                      rw [hby] at f0 f1 f2
                      have HAB := Hid.mk (show (vAt X p = vAt qs[t] r ↔ a = b) by rw [← HX.out, HV.out, HVY.out, hax, hby])
                      have YES : Aside (a = b → M + 1 = N + (joinR X (qs.take (t + 1)) p r).length) := fun h => by rw [cnt_yes X qs p r t htl (HAB.out.2 h), HMM.out.1]; omega
                      have NO : Aside (a ≠ b → M = N + (joinR X (qs.take (t + 1)) p r).length) := fun h => by rw [cnt_no X qs p r t htl (fun h' => h (HAB.out.1 h'))]; exact HMM.out.1
                      have HJRL := Hid.mk (joinR_len X (qs.take t) p r)
                      have hM' : M ≤ 4000 := by
                        have h1 := HJRL.out
                        rw [List.length_take] at h1
                        have h2 := HMM.out.1
                        omega
                      clear HV HVY hxu hyu hxat hyat hrat hqat hlenx hleny hax hby hBW
                      by_cases d0 : a.1 = b.1
                      · by_cases d1 : a.2.1 = b.2.1
                        · by_cases d2 : a.2.2.toList = b.2.2.toList
                          · have hab : a = b := Prod.ext d0 (Prod.ext d1 (ba_toList' d2))
                            have HY := Hid.mk (YES.out hab)
                            subst hab
                            clear d0 d1 d2 YES NO
                            go_wp2
                            go_quiet (fail)
                            go_wp2
                            go_roundg (qs.length - (t + 1))
                            case measure => omega
                            case rel => exact ⟨t + 1, M + 1, by omega, by go_num, Nat.le_refl _, by go_num, by omega, HY.out, below_drewN HMM.out.2 _⟩
                          · have d0' : (a.1 == b.1) = true := by simp [d0]
                            have d1' : (a.2.1 == b.2.1) = true := by simp [d1]
                            have d2' : (a.2.2.toList == b.2.2.toList) = false := by simp [d2]
                            have HN2 := Hid.mk (NO.out (by rintro rfl; exact d2 rfl))
                            go_wp2
                            go_quiet (fail)
                            go_wp2
                            go_roundg (qs.length - (t + 1))
                            case measure => omega
                            case rel => exact ⟨t + 1, M, by omega, by go_num, Nat.le_refl _, rfl, by omega, HN2.out, below_drewN HMM.out.2 _⟩
                        · have d0' : (a.1 == b.1) = true := by simp [d0]
                          have d1' : (a.2.1 == b.2.1) = false := by simp [d1]
                          have HN2 := Hid.mk (NO.out (by rintro rfl; exact d1 rfl))
                          go_wp2
                          go_quiet (fail)
                          go_wp2
                          go_roundg (qs.length - (t + 1))
                          case measure => omega
                          case rel => exact ⟨t + 1, M, by omega, by go_num, Nat.le_refl _, rfl, by omega, HN2.out, below_drewN HMM.out.2 _⟩
                      · have d0' : (a.1 == b.1) = false := by simp [d0]
                        have HN2 := Hid.mk (NO.out (by rintro rfl; exact d0 rfl))
                        go_wp2
                        go_quiet (fail)
                        go_wp2
                        go_roundg (qs.length - (t + 1))
                        case measure => omega
                        case rel => exact ⟨t + 1, M, by omega, by go_num, Nat.le_refl _, rfl, by omega, HN2.out, below_drewN HMM.out.2 _⟩
                    · have htlz : ¬ ((t : Int) < (qs.length : Int)) := by omega
                      have HTK := Hid.mk (show M = (joinL (rs.take (k + 1)) qs p r).length by rw [HMM.out.1, HKL.out, HSS.out.1, show qs.take t = qs from List.take_of_length_le (by omega)])
                      go_wp2
                      go_roundg (rs.length - (k + 1))
                      case measure => omega
                      case rel => exact ⟨k + 1, M, by omega, by go_num, Nat.le_refl _, rfl, by omega, HTK.out, HMM.out.2⟩
              · have hltz : ¬ ((k : Int) < (rs.length : Int)) := by omega
                have hNJ : N = JL := by rw [HSS.out.1, List.take_of_length_le (by omega), HJL.out]
                subst hNJ
                have hJCz : (JC : Int) = (cs.length : Int) + (ds.length : Int) - 1 := by have := HBS.out; omega
                have hw1 : IntKind.i64.wrap ((cs.length : Int) + (ds.length : Int)) = (cs.length : Int) + (ds.length : Int) := by rw [IntKind.wrap_i64]; omega
                have hw2 : IntKind.i64.wrap ((cs.length : Int) + (ds.length : Int) - 1) = (cs.length : Int) + (ds.length : Int) - 1 := by rw [IntKind.wrap_i64]; omega
                have hne : ((JC : Int) != (cs.length : Int) + (ds.length : Int) - 1) = false := by rw [hJCz]; simp
                obtain ⟨m0, m1, m2, m3, m4, m5, m6, -⟩ := ST9.out
                have m6a : w.heap.size < wr.heap.size := by omega
                have m6b : w.heap.size + 1 < wr.heap.size := by omega
                have m6c : w.heap.size + 2 < wr.heap.size := by omega
                go_wp2_with (go_at_call 19; fail)
                clear m0 m1 m2 m3 m4 m5 m6 m6a m6b m6c
                refine (HG.out _ (wr.alloc (.cells #[.string x, .string y] 9)) _ (bel_box ST9.out.2.2.2.2.2.2.2 _) (by simp) (strs_new2 _ x y _ (by simp))).mono ?_
                rintro e w6 ⟨hres, HB⟩
                have ST6 := Hid.mk (ST9.out.below (bel_then (bel_box (below_box wr (.cells #[.string x, .string y] 9)) _) HB))
                clear HB HG
                rcases hres with ⟨hok, xg, yg, rfl, hcn, hrn⟩ | ⟨hok, rfl⟩
                · obtain ⟨hrt, hge, hsm0⟩ := grpNo_0 hok
                  have HOK := Hid.mk (And.intro hrt (And.intro hge hsm0))
                  obtain ⟨l1, l2, l3, l4⟩ := right_len hrt
                  have l3' : rs.length ≤ 60 := l3
                  obtain ⟨gxa, gxc, rfl⟩ := own_slice hcn.1
                  have hrI := hrn.is
                  obtain ⟨gya, gyc, rfl⟩ := rowsNew_slice hrn
                  have HGR := Hid.mk (hrI.below (below_box w6 (.cells #[.slice gxa (grpT (cs, rs) x y).1.length gxc, .slice gya (grpT (cs, rs) x y).2.length gyc] 36)))
                  obtain ⟨GL, hGL⟩ : ∃ z, (grpT (cs, rs) x y).2.length = z := ⟨_, rfl⟩
                  have HGL := Hid.mk hGL
                  obtain ⟨GC, hGC⟩ : ∃ z, (grpT (cs, rs) x y).1.length = z := ⟨_, rfl⟩
                  rw [hGL, hGC] at HGR ⊢
                  have hq1 := (grpErr_0 hge).2.1
                  have HPL := Hid.mk hq1
                  have hql := place_some hq1
                  have HNM := Hid.mk (grp_nums hrt hge)
                  have HL4 := Hid.mk l4
                  obtain ⟨q, hqq⟩ : ∃ z, pOf (cs, rs).1 y = z := ⟨_, rfl⟩
                  have HQQ := Hid.mk hqq
                  rw [hqq] at HPL HNM hql
                  have HQL := Hid.mk (show q < cs.length from hql)
                  obtain ⟨cb, co, vcq, hve, hcbl, hcat⟩ := cols_at HCR.out.1 l1
                  simp only [Value.slice.injEq, Option.some.injEq, Addr.mk.injEq, true_and, and_true] at hve
                  obtain ⟨⟨rfl, rfl⟩, rfl⟩ := hve
                  clear hok hrt hge hcn hrn hrI hGL hGC hq1 l4 hqq hsm0
                  obtain ⟨m0, m1, m2, m3, m4, m5, m6, m7⟩ := ST6.out
                  have m6a : w.heap.size < w6.heap.size := by omega
                  have m6b : w.heap.size + 1 < w6.heap.size := by omega
                  have m6c : w.heap.size + 2 < w6.heap.size := by omega
                  have hmf : ∀ (fn : Fn) (first cap : Array Value) (w : World), (Instr.makeFunc fn first cap).run Tryz.prog w = .ok (.func fn first cap) w := fun _ _ _ _ => rfl
                  go_wp2_with (go_at_call 20; fail)
                  clear m0 m1 m2 m3 m4 m5 m6 m6a m6b m6c m7
                  refine (indexJoin3_in cb co cs.length vcp cs y (w.heap.size + 3) (w6.alloc (.cells #[.slice gxa GC gxc, .slice gya GL gyc] 36)) rfl (by omega) (by have := ST6.out.2.2.2.2.2.2.1; have := ST6.out.2.2.2.2.2.2.2.size; simp; omega) (hcat.below (bel_box ST6.out.2.2.2.2.2.2.2 _) hcbl) (ST6.out.below (below_box _ _)).2.2.2.2.2.1 (by have := ST6.out.2.2.2.2.2.2.1; simp; omega)).mono ?_
                  rintro e w8 ⟨rfl, hb8⟩
                  rw [place_nat HPL.out]
                  have ST8 := Hid.mk (ST6.out.below (bel_then (below_box w6 (.cells #[.slice gxa GC gxc, .slice gya GL gyc] 36)) hb8))
                  have g1 : w8.cell? ⟨w6.heap.size, 1, none⟩ = some (.slice gya GL gyc) := (hb8.cell (p := ⟨w6.heap.size, 1, none⟩) (by simp)).trans (by rw [World.cell?_alloc_at _ _ _ _ rfl]; rfl)
                  have hg8 : w6.heap.size < w8.heap.size := by have := hb8.size; simp at this; omega
                  have HG8 := Hid.mk (HGR.out.below hb8)
                  generalize w6.heap.size = gb at *
                  clear hb8 HGR hcat
                  obtain ⟨m0, m1, m2, m3, m4, m5, m6, m7⟩ := ST8.out
                  have m6a : w.heap.size < w8.heap.size := by omega
                  clear m2 m3 m4 m5 m7
                  go_wp2
                  go_loopg [18, 19] rs.length (fun g1 al i wr => ∃ (k : Nat) (S : Int), k ≤ rs.length ∧ i = .int .i64 k ∧ rs.length - k ≤ g1 ∧ al = .int .i64 S ∧ Aside (S = sumR q (rs.take k)) ∧ wr = w8)
                  case atStart => exact ⟨0, 0, Nat.zero_le _, rfl, by omega, rfl, (show (0 : Int) = sumR q (rs.take 0) by simp [sumR]), rfl⟩
                  case round =>
                    obtain ⟨k, S, hk, rfl, hg, rfl, HSS, hwr⟩ := hrel
                    have hwr' := hwr.symm
                    clear hwr
                    subst hwr'
                    by_cases hlt : k < rs.length
                    · as_aux_lemma =>
                        have hltz : (k : Int) < (rs.length : Int) := by omega
                        obtain ⟨rb, ro, rc', hve, hrl, hrat⟩ := rowsS_at' HCR.out.2.1 (by omega)
                        simp only [Value.slice.injEq, true_and] at hve
                        obtain ⟨rfl, rfl⟩ := hve
                        have hlen := HL4.out _ (List.getElem_mem hlt)
                        obtain ⟨xb, xo, xc', hxu, hxl, hxat⟩ := row_at' hrat hlt hlen l1
                        have hxu' := (ST8.out.2.2.2.2.2.2.2.cell (p := ⟨rb, ro + k, none⟩) hrl).trans hxu
                        obtain ⟨-, f1, -⟩ := (hxat.below ST8.out.2.2.2.2.2.2.2 hxl) q (by rw [hlen]; exact hql)
                        have hva := vAt_of (r := rs[k]) (k := q) (by rw [hlen]; exact hql)
                        obtain ⟨num, hnm⟩ : ∃ z, (vAt rs[k] q).2.1 = z := ⟨_, rfl⟩
                        rw [← hva, hnm] at f1
                        have hst := sumR_step q rs k hlt
                        rw [hnm, ← HSS.out] at hst
                        have HST := Hid.mk hst
                        have hsm := sumR_small q (rs.take k) (fun r hr => HNM.out r (List.mem_of_mem_take hr))
                        rw [← HSS.out, List.length_take, Nat.min_eq_left (Nat.le_of_lt hlt)] at hsm
                        have hkz : (k : Int) ≤ 60 := by omega
                        have hn1 := HNM.out _ (List.getElem_mem hlt)
                        rw [hnm] at hn1
                        unfold inNum at hn1
                        have hsum : IntKind.i64.wrap (S + num) = S + num := by rw [IntKind.wrap_i64]; omega
                        have hqz' : (q : Int) < (cs.length : Int) := Int.ofNat_lt.2 (show q < cs.length from HQL.out)
                        clear hst hsm hn1 hxu hxat hva hnm hlen hrat
                        go_wp2
                        go_roundg (rs.length - (k + 1))
                        case measure => omega
                        case rel => exact ⟨k + 1, S + num, by omega, by go_num, Nat.le_refl _, rfl, HST.out.symm, rfl⟩
                    · have hltz : ¬ ((k : Int) < (rs.length : Int)) := by omega
                      have HAL := Hid.mk (show S = sumR q rs by rw [HSS.out, List.take_of_length_le (by omega)])
                      go_wp2
                      clear m0 m1 hlt hltz hk hg HSS HL4 HNM HQL hql
                      have HGP := Hid.mk (grp_right (t := (cs, rs)) HOK.out.1 HOK.out.2.1)
                      have HGI := Hid.mk HOK.out.2.2
                      have hGL6 : GL ≤ 60 := by have h1 : (grpRows (grpOf (cs, rs) x y)).length ≤ rs.length := grp_len (cs, rs) x y; have h2 : (grpRows (grpOf (cs, rs) x y)).length = GL := HGL.out; omega
                      obtain ⟨gs, hgs⟩ : ∃ z, grpOf (cs, rs) x y = z := ⟨_, rfl⟩
                      have hrows : (grpT (cs, rs) x y).2 = grpRows gs := by rw [← hgs]; rfl
                      rw [hrows] at HG8 HGL
                      rw [hgs, HQQ.out] at HGP
                      rw [hgs] at HGI
                      clear hrows hgs
                      obtain ⟨GR, hGR⟩ : ∃ z, grpRows gs = z := ⟨_, rfl⟩
                      have HGG := Hid.mk hGR
                      rw [hGR] at HG8 HGL
                      clear hGR
                      have HGS := Hid.mk (show gs.length = GL by have := HGL.out; rw [← HGG.out] at this; simpa [grpRows] using this)
                      go_loopg [18, 20] GL (fun g1 al i wr => ∃ (k : Nat) (S : Int), k ≤ GL ∧ i = .int .i64 k ∧ GL - k ≤ g1 ∧ al = .int .i64 S ∧ Aside (S = sumR q rs - sumG (gs.take k) ∧ Below w8.heap.size w8 wr))
                      case atStart => exact ⟨0, S, Nat.zero_le _, rfl, by omega, rfl, by rw [HAL.out]; simp [sumG], Below.refl _ _⟩
                      case round =>
                        obtain ⟨k, S', hk, rfl, hg, rfl, HSS⟩ := hrel
                        have ST9 := Hid.mk (ST8.out.below HSS.out.2)
                        have g1' : wr.cell? ⟨gb, 1, none⟩ = some (.slice gya GL gyc) := (HSS.out.2.cell (p := ⟨gb, 1, none⟩) hg8).trans g1
                        have hgb : gb < wr.heap.size := Nat.lt_of_lt_of_le hg8 HSS.out.2.size
                        have HG9 := Hid.mk (HG8.out.below HSS.out.2)
                        by_cases hlt : k < GL
                        · as_aux_lemma =>
                            have hltz : (k : Int) < (GL : Int) := by omega
                            have hGRl := HGL.out
                            have hltR : k < GR.length := by rw [hGRl]; exact hlt
                            have hltS : k < gs.length := by rw [HGS.out]; exact hlt
                            have hrow : ∀ (i : Nat) (h : i < GR.length) (h' : i < gs.length), GR[i] = [gs[i].1, (1, gs[i].2, ⟨#[]⟩)] := by
                              intro i h h'
                              have e := HGG.out
                              subst e
                              exact (grp_row gs i h).2
                            obtain ⟨rb, ro, rc', hve, hrl, hrat⟩ := rowsS_at' HG9.out (by omega)
                            rw [hGRl] at hve
                            simp only [Value.slice.injEq, true_and] at hve
                            obtain ⟨rfl, rfl⟩ := hve
                            have hlen : GR[k].length = 2 := by rw [hrow k hltR hltS]; rfl
                            obtain ⟨xb, xo, xc', hxu, hxl, hxat⟩ := row_at' hrat hltR hlen (by omega)
                            obtain ⟨-, f1, -⟩ := hxat 1 (by rw [hlen]; omega)
                            obtain ⟨e0, e1, e2⟩ := hxat 0 (by rw [hlen]; omega)
                            simp only [hrow k hltR hltS, List.getElem_cons_succ, List.getElem_cons_zero] at f1 e0 e1 e2
                            obtain ⟨num, hnm⟩ : ∃ z, gs[k].2 = z := ⟨_, rfl⟩
                            rw [hnm] at f1
                            have hst := sumG_next gs k hltS
                            rw [hnm] at hst
                            have HST := Hid.mk (show S' - num = sumR q rs - sumG (gs.take (k + 1)) by rw [hst, HSS.out.1]; omega)
                            have hsm1 := sumG_small (gs.take k) (fun g hg => HGI.out g (List.mem_of_mem_take hg))
                            rw [List.length_take, Nat.min_eq_left (Nat.le_of_lt hltS)] at hsm1
                            have hsm2 := sumG_small gs (fun g hg => HGI.out g hg)
                            rw [HGS.out, show sumG gs = sumR q rs from HGP.out.2] at hsm2
                            have hn1 := HGI.out _ (List.getElem_mem hltS)
                            rw [hnm] at hn1
                            unfold inNum at hn1
                            have hS := HSS.out.1
                            have hdif : IntKind.i64.wrap (S' - num) = S' - num := by rw [IntKind.wrap_i64]; omega
                            by_cases hk0 : k = 0
                            · subst hk0
                              simp only [Nat.add_zero] at hxu
                              clear hst hsm1 hsm2 hn1 hxat hnm hlen hrat hrow hS e0 e1 e2
                              go_wp2_with fail
                              go_quiet (fail)
                              go_wp2
                              go_roundg (GL - (0 + 1))
                              case measure => omega
                              case rel => exact ⟨0 + 1, S' - num, by omega, by go_num, Nat.le_refl _, rfl, HST.out, below_drewN HSS.out.2 _⟩
                            · have hk0z : (0 : Int) < (k : Int) := by omega
                              obtain ⟨ip, hip⟩ : ∃ z, z + 1 = k := ⟨k - 1, by omega⟩
                              have hltR' : ip < GR.length := by omega
                              have hltS' : ip < gs.length := by omega
                              have hlen' : GR[ip].length = 2 := by rw [hrow ip hltR' hltS']; rfl
                              obtain ⟨yb, yo, yc', hyu, hyl, hyat⟩ := row_at' hrat hltR' hlen' (by omega)
                              obtain ⟨c0, c1, c2⟩ := hyat 0 (by rw [hlen']; omega)
                              simp only [hrow ip hltR' hltS', List.getElem_cons_zero, Nat.zero_mul, Nat.add_zero] at c0 c1 c2
                              simp only [Nat.zero_mul, Nat.add_zero] at e0 e1 e2
                              have hles : lessV gs[ip].1 gs[k].1 = true := by
                                have h := (List.pairwise_iff_getElem.1 HGP.out.1) ip k hltS' hltS (by omega)
                                exact h
                              generalize gs[k].1 = a at *
                              generalize gs[ip].1 = b at *
                              have LG : Aside (∀ W : World, Calls Tryz.prog 24 #[.agg #[.int .i64 b.1, .int .i64 b.2.1, .string b.2.2], .agg #[.int .i64 a.1, .int .i64 a.2.1, .string a.2.2]] W fun e w' => e = .returned (.bool true) ∧ ∃ q os', w' = grow (W.drewN q) os') := fun W => by have := less_grown b a W; rw [hles] at this; exact this
                              obtain ⟨iN, hiN⟩ : ∃ z, z = k := ⟨_, rfl⟩
                              obtain ⟨jN, hjN⟩ : ∃ z, z = ip := ⟨_, rfl⟩
                              rw [← hiN] at hxu
                              rw [← hjN] at hyu
                              have zip : (k : Int) = (ip : Int) + 1 := by omega
                              have ea : ((ip : Int) + 1).toNat = iN := by omega
                              have ec : ((ip : Int)).toNat = jN := by omega
                              have pa : (0 : Int) ≤ (ip : Int) + 1 := by omega
                              have pa' : (0 : Int) < (ip : Int) + 1 := by omega
                              have ra' : IntKind.i64.wrap ((ip : Int) + 1) = (ip : Int) + 1 := by rw [IntKind.wrap_i64]; omega
                              have pc : (0 : Int) ≤ (ip : Int) := by omega
                              have rc'' : IntKind.i64.wrap ((ip : Int)) = (ip : Int) := by rw [IntKind.wrap_i64]; omega
                              have ba : (ip : Int) + 1 < (GL : Int) := by omega
                              have bc : (ip : Int) < (GL : Int) := by omega
                              have X0 := cell_grown (by exact hgb) g1'
                              have X1 := cell_grown (by exact hrl) hxu
                              have X2 := cell_grown (by exact hrl) hyu
                              have hyv := hyu
                              rw [hjN] at hyv
                              have X2b := cell_grown (by exact hrl) hyv
                              have hxv := hxu
                              rw [hiN, ← hip] at hxv
                              have X1b := cell_grown (by exact hrl) hxv
                              have E0 := cell_grown (by exact hxl) e0
                              have E1 := cell_grown (by exact hxl) e1
                              have E2 := cell_grown (by exact hxl) e2
                              have F0 := cell_grown (by exact hyl) c0
                              have F1 := cell_grown (by exact hyl) c1
                              have F2 := cell_grown (by exact hyl) c2
                              have hxk := hxu
                              rw [hiN] at hxk
                              have X1c := cell_grown (by exact hrl) hxk
                              clear hxu hyu hxv hyv e0 e1 e2 c0 c1 c2 hst hsm1 hsm2 hn1 hxat hyat hnm hlen hlen' hrat hrow hS hles
                              go_wp2_with fail
                              try simp only [zip]
                              go_quiet_grown (first | (go_at_call 24; refine Calls.grown_of (LG.out _)))
                              have HB6 : Aside (Below w8.heap.size w8 (grow (wr.drewN nq) osq)) := bel_then HSS.out.2 (below_growN _ _ _)
                              clear X0 X1 X2 X1b X1c X2b E0 E1 E2 F0 F1 F2 LG ea ec
                              generalize grow (wr.drewN nq) osq = w9 at HB6 ⊢
                              clear nq osq
                              go_wp2
                              go_roundg (GL - (k + 1))
                              case measure => omega
                              case rel => exact ⟨k + 1, S' - num, by omega, by first | go_num | (congr 1; omega), Nat.le_refl _, rfl, HST.out, HB6.out⟩
                        · have hltz : ¬ ((k : Int) < (GL : Int)) := by omega
                          have hz : S' = 0 := by
                            have h1 := HSS.out.1
                            rw [List.take_of_length_le (by rw [HGS.out]; omega), show sumG gs = sumR q rs from HGP.out.2] at h1
                            omega
                          subst hz
                          have HBE := Hid.mk (bel_then ST8.out.2.2.2.2.2.2.2 HSS.out.2)
                          clear HSS ST9 HG9
                          go_wp2
                          go_ret
                          exact ⟨rfl, HBE.out⟩
                · clear hok
                  go_wp2
                  go_ret
                  exact ⟨rfl, bel_box ST6.out.2.2.2.2.2.2.2 _⟩
          · clear hok
            have STF := Hid.mk (ST5.out.below (below_box w5 (.cells #[.slice none 0 0, .slice none 0 0] 36)))
            obtain ⟨m0, m1, m2, m3, m4, m5, m6, -⟩ := ST5.out
            have m6a : w.heap.size < w5.heap.size := by omega
            have m6b : w.heap.size + 1 < w5.heap.size := by omega
            have m6c : w.heap.size + 2 < w5.heap.size := by omega
            go_wp2_with (go_at_call 19; fail)
            clear m0 m1 m2 m3 m4 m5 m6 m6a m6b m6c
            refine (HG.out _ ((w5.alloc (.cells #[.slice none 0 0, .slice none 0 0] 36)).alloc (.cells #[.string x, .string y] 9)) _ (bel_box STF.out.2.2.2.2.2.2.2 _) (by simp) (strs_new2 _ x y _ (by simp))).mono ?_
            rintro e w6 ⟨hres, HB⟩
            have ST6 := Hid.mk (STF.out.below (bel_then (bel_box (below_box (w5.alloc (.cells #[.slice none 0 0, .slice none 0 0] 36)) (.cells #[.string x, .string y] 9)) _) HB))
            clear HB HG
            rcases hres with ⟨hok, xg, yg, rfl, hcn, hrn⟩ | ⟨hok, rfl⟩
            · obtain ⟨hrt, hge, hsm0⟩ := grpNo_0 hok
              have HOK := Hid.mk (And.intro hrt (And.intro hge hsm0))
              obtain ⟨l1, l2, l3, l4⟩ := right_len hrt
              have l3' : rs.length ≤ 60 := l3
              obtain ⟨gxa, gxc, rfl⟩ := own_slice hcn.1
              have hrI := hrn.is
              obtain ⟨gya, gyc, rfl⟩ := rowsNew_slice hrn
              have HGR := Hid.mk (hrI.below (below_box w6 (.cells #[.slice gxa (grpT (cs, rs) x y).1.length gxc, .slice gya (grpT (cs, rs) x y).2.length gyc] 36)))
              obtain ⟨GL, hGL⟩ : ∃ z, (grpT (cs, rs) x y).2.length = z := ⟨_, rfl⟩
              have HGL := Hid.mk hGL
              obtain ⟨GC, hGC⟩ : ∃ z, (grpT (cs, rs) x y).1.length = z := ⟨_, rfl⟩
              rw [hGL, hGC] at HGR ⊢
              have hq1 := (grpErr_0 hge).2.1
              have HPL := Hid.mk hq1
              have hql := place_some hq1
              have HNM := Hid.mk (grp_nums hrt hge)
              have HL4 := Hid.mk l4
              obtain ⟨q, hqq⟩ : ∃ z, pOf (cs, rs).1 y = z := ⟨_, rfl⟩
              have HQQ := Hid.mk hqq
              rw [hqq] at HPL HNM hql
              have HQL := Hid.mk (show q < cs.length from hql)
              obtain ⟨cb, co, vcq, hve, hcbl, hcat⟩ := cols_at HCR.out.1 l1
              simp only [Value.slice.injEq, true_and] at hve
              obtain ⟨rfl, rfl⟩ := hve
              clear hok hrt hge hcn hrn hrI hGL hGC hq1 l4 hqq hsm0
              obtain ⟨m0, m1, m2, m3, m4, m5, m6, m7⟩ := ST6.out
              have m6a : w.heap.size < w6.heap.size := by omega
              have m6b : w.heap.size + 1 < w6.heap.size := by omega
              have m6c : w.heap.size + 2 < w6.heap.size := by omega
              have hmf : ∀ (fn : Fn) (first cap : Array Value) (w : World), (Instr.makeFunc fn first cap).run Tryz.prog w = .ok (.func fn first cap) w := fun _ _ _ _ => rfl
              go_wp2_with (go_at_call 20; fail)
              clear m0 m1 m2 m3 m4 m5 m6 m6a m6b m6c m7
              refine (indexJoin3_in cb co cs.length vcp cs y (w.heap.size + 3) (w6.alloc (.cells #[.slice gxa GC gxc, .slice gya GL gyc] 36)) rfl (by omega) (by have := ST6.out.2.2.2.2.2.2.1; have := ST6.out.2.2.2.2.2.2.2.size; simp; omega) (hcat.below (bel_box ST6.out.2.2.2.2.2.2.2 _) hcbl) (ST6.out.below (below_box _ _)).2.2.2.2.2.1 (by have := ST6.out.2.2.2.2.2.2.1; simp; omega)).mono ?_
              rintro e w8 ⟨rfl, hb8⟩
              rw [place_nat HPL.out]
              have ST8 := Hid.mk (ST6.out.below (bel_then (below_box w6 (.cells #[.slice gxa GC gxc, .slice gya GL gyc] 36)) hb8))
              have g1 : w8.cell? ⟨w6.heap.size, 1, none⟩ = some (.slice gya GL gyc) := (hb8.cell (p := ⟨w6.heap.size, 1, none⟩) (by simp)).trans (by rw [World.cell?_alloc_at _ _ _ _ rfl]; rfl)
              have hg8 : w6.heap.size < w8.heap.size := by have := hb8.size; simp at this; omega
              have HG8 := Hid.mk (HGR.out.below hb8)
              generalize w6.heap.size = gb at *
              clear hb8 HGR hcat
              obtain ⟨m0, m1, m2, m3, m4, m5, m6, m7⟩ := ST8.out
              have m6a : w.heap.size < w8.heap.size := by omega
              clear m2 m3 m4 m5 m7
              go_wp2
              go_loopg [18, 19] rs.length (fun g1 al i wr => ∃ (k : Nat) (S : Int), k ≤ rs.length ∧ i = .int .i64 k ∧ rs.length - k ≤ g1 ∧ al = .int .i64 S ∧ Aside (S = sumR q (rs.take k)) ∧ wr = w8)
              case atStart => exact ⟨0, 0, Nat.zero_le _, rfl, by omega, rfl, (show (0 : Int) = sumR q (rs.take 0) by simp [sumR]), rfl⟩
              case round =>
                obtain ⟨k, S, hk, rfl, hg, rfl, HSS, hwr⟩ := hrel
                have hwr' := hwr.symm
                clear hwr
                subst hwr'
                by_cases hlt : k < rs.length
                · as_aux_lemma =>
                    have hltz : (k : Int) < (rs.length : Int) := by omega
                    obtain ⟨rb, ro, rc', hve, hrl, hrat⟩ := rowsS_at' HCR.out.2.1 (by omega)
                    simp only [Value.slice.injEq, true_and] at hve
                    obtain ⟨rfl, rfl⟩ := hve
                    have hlen := HL4.out _ (List.getElem_mem hlt)
                    obtain ⟨xb, xo, xc', hxu, hxl, hxat⟩ := row_at' hrat hlt hlen l1
                    have hxu' := (ST8.out.2.2.2.2.2.2.2.cell (p := ⟨rb, ro + k, none⟩) hrl).trans hxu
                    obtain ⟨-, f1, -⟩ := (hxat.below ST8.out.2.2.2.2.2.2.2 hxl) q (by rw [hlen]; exact hql)
                    have hva := vAt_of (r := rs[k]) (k := q) (by rw [hlen]; exact hql)
                    obtain ⟨num, hnm⟩ : ∃ z, (vAt rs[k] q).2.1 = z := ⟨_, rfl⟩
                    rw [← hva, hnm] at f1
                    have hst := sumR_step q rs k hlt
                    rw [hnm, ← HSS.out] at hst
                    have HST := Hid.mk hst
                    have hsm := sumR_small q (rs.take k) (fun r hr => HNM.out r (List.mem_of_mem_take hr))
                    rw [← HSS.out, List.length_take, Nat.min_eq_left (Nat.le_of_lt hlt)] at hsm
                    have hkz : (k : Int) ≤ 60 := by omega
                    have hn1 := HNM.out _ (List.getElem_mem hlt)
                    rw [hnm] at hn1
                    unfold inNum at hn1
                    have hsum : IntKind.i64.wrap (S + num) = S + num := by rw [IntKind.wrap_i64]; omega
                    have hqz' : (q : Int) < (cs.length : Int) := Int.ofNat_lt.2 (show q < cs.length from HQL.out)
                    clear hst hsm hn1 hxu hxat hva hnm hlen hrat
                    go_wp2
                    go_roundg (rs.length - (k + 1))
                    case measure => omega
                    case rel => exact ⟨k + 1, S + num, by omega, by go_num, Nat.le_refl _, rfl, HST.out.symm, rfl⟩
                · have hltz : ¬ ((k : Int) < (rs.length : Int)) := by omega
                  have HAL := Hid.mk (show S = sumR q rs by rw [HSS.out, List.take_of_length_le (by omega)])
                  go_wp2
                  clear m0 m1 hlt hltz hk hg HSS HL4 HNM HQL hql
                  have HGP := Hid.mk (grp_right (t := (cs, rs)) HOK.out.1 HOK.out.2.1)
                  have HGI := Hid.mk HOK.out.2.2
                  have hGL6 : GL ≤ 60 := by have h1 : (grpRows (grpOf (cs, rs) x y)).length ≤ rs.length := grp_len (cs, rs) x y; have h2 : (grpRows (grpOf (cs, rs) x y)).length = GL := HGL.out; omega
                  obtain ⟨gs, hgs⟩ : ∃ z, grpOf (cs, rs) x y = z := ⟨_, rfl⟩
                  have hrows : (grpT (cs, rs) x y).2 = grpRows gs := by rw [← hgs]; rfl
                  rw [hrows] at HG8 HGL
                  rw [hgs, HQQ.out] at HGP
                  rw [hgs] at HGI
                  clear hrows hgs
                  obtain ⟨GR, hGR⟩ : ∃ z, grpRows gs = z := ⟨_, rfl⟩
                  have HGG := Hid.mk hGR
                  rw [hGR] at HG8 HGL
                  clear hGR
                  have HGS := Hid.mk (show gs.length = GL by have := HGL.out; rw [← HGG.out] at this; simpa [grpRows] using this)
                  go_loopg [18, 20] GL (fun g1 al i wr => ∃ (k : Nat) (S : Int), k ≤ GL ∧ i = .int .i64 k ∧ GL - k ≤ g1 ∧ al = .int .i64 S ∧ Aside (S = sumR q rs - sumG (gs.take k) ∧ Below w8.heap.size w8 wr))
                  case atStart => exact ⟨0, S, Nat.zero_le _, rfl, by omega, rfl, by rw [HAL.out]; simp [sumG], Below.refl _ _⟩
                  case round =>
                    obtain ⟨k, S', hk, rfl, hg, rfl, HSS⟩ := hrel
                    have ST9 := Hid.mk (ST8.out.below HSS.out.2)
                    have g1' : wr.cell? ⟨gb, 1, none⟩ = some (.slice gya GL gyc) := (HSS.out.2.cell (p := ⟨gb, 1, none⟩) hg8).trans g1
                    have hgb : gb < wr.heap.size := Nat.lt_of_lt_of_le hg8 HSS.out.2.size
                    have HG9 := Hid.mk (HG8.out.below HSS.out.2)
                    by_cases hlt : k < GL
                    · as_aux_lemma =>
                        have hltz : (k : Int) < (GL : Int) := by omega
                        have hGRl := HGL.out
                        have hltR : k < GR.length := by rw [hGRl]; exact hlt
                        have hltS : k < gs.length := by rw [HGS.out]; exact hlt
                        have hrow : ∀ (i : Nat) (h : i < GR.length) (h' : i < gs.length), GR[i] = [gs[i].1, (1, gs[i].2, ⟨#[]⟩)] := by
                          intro i h h'
                          have e := HGG.out
                          subst e
                          exact (grp_row gs i h).2
                        obtain ⟨rb, ro, rc', hve, hrl, hrat⟩ := rowsS_at' HG9.out (by omega)
                        rw [hGRl] at hve
                        simp only [Value.slice.injEq, true_and] at hve
                        obtain ⟨rfl, rfl⟩ := hve
                        have hlen : GR[k].length = 2 := by rw [hrow k hltR hltS]; rfl
                        obtain ⟨xb, xo, xc', hxu, hxl, hxat⟩ := row_at' hrat hltR hlen (by omega)
                        obtain ⟨-, f1, -⟩ := hxat 1 (by rw [hlen]; omega)
                        obtain ⟨e0, e1, e2⟩ := hxat 0 (by rw [hlen]; omega)
                        simp only [hrow k hltR hltS, List.getElem_cons_succ, List.getElem_cons_zero] at f1 e0 e1 e2
                        obtain ⟨num, hnm⟩ : ∃ z, gs[k].2 = z := ⟨_, rfl⟩
                        rw [hnm] at f1
                        have hst := sumG_next gs k hltS
                        rw [hnm] at hst
                        have HST := Hid.mk (show S' - num = sumR q rs - sumG (gs.take (k + 1)) by rw [hst, HSS.out.1]; omega)
                        have hsm1 := sumG_small (gs.take k) (fun g hg => HGI.out g (List.mem_of_mem_take hg))
                        rw [List.length_take, Nat.min_eq_left (Nat.le_of_lt hltS)] at hsm1
                        have hsm2 := sumG_small gs (fun g hg => HGI.out g hg)
                        rw [HGS.out, show sumG gs = sumR q rs from HGP.out.2] at hsm2
                        have hn1 := HGI.out _ (List.getElem_mem hltS)
                        rw [hnm] at hn1
                        unfold inNum at hn1
                        have hS := HSS.out.1
                        have hdif : IntKind.i64.wrap (S' - num) = S' - num := by rw [IntKind.wrap_i64]; omega
                        by_cases hk0 : k = 0
                        · subst hk0
                          simp only [Nat.add_zero] at hxu
                          clear hst hsm1 hsm2 hn1 hxat hnm hlen hrat hrow hS e0 e1 e2
                          go_wp2_with fail
                          go_quiet (fail)
                          go_wp2
                          go_roundg (GL - (0 + 1))
                          case measure => omega
                          case rel => exact ⟨0 + 1, S' - num, by omega, by go_num, Nat.le_refl _, rfl, HST.out, below_drewN HSS.out.2 _⟩
                        · have hk0z : (0 : Int) < (k : Int) := by omega
                          obtain ⟨ip, hip⟩ : ∃ z, z + 1 = k := ⟨k - 1, by omega⟩
                          have hltR' : ip < GR.length := by omega
                          have hltS' : ip < gs.length := by omega
                          have hlen' : GR[ip].length = 2 := by rw [hrow ip hltR' hltS']; rfl
                          obtain ⟨yb, yo, yc', hyu, hyl, hyat⟩ := row_at' hrat hltR' hlen' (by omega)
                          obtain ⟨c0, c1, c2⟩ := hyat 0 (by rw [hlen']; omega)
                          simp only [hrow ip hltR' hltS', List.getElem_cons_zero, Nat.zero_mul, Nat.add_zero] at c0 c1 c2
                          simp only [Nat.zero_mul, Nat.add_zero] at e0 e1 e2
                          have hles : lessV gs[ip].1 gs[k].1 = true := by
                            have h := (List.pairwise_iff_getElem.1 HGP.out.1) ip k hltS' hltS (by omega)
                            exact h
                          generalize gs[k].1 = a at *
                          generalize gs[ip].1 = b at *
                          have LG : Aside (∀ W : World, Calls Tryz.prog 24 #[.agg #[.int .i64 b.1, .int .i64 b.2.1, .string b.2.2], .agg #[.int .i64 a.1, .int .i64 a.2.1, .string a.2.2]] W fun e w' => e = .returned (.bool true) ∧ ∃ q os', w' = grow (W.drewN q) os') := fun W => by have := less_grown b a W; rw [hles] at this; exact this
                          obtain ⟨iN, hiN⟩ : ∃ z, z = k := ⟨_, rfl⟩
                          obtain ⟨jN, hjN⟩ : ∃ z, z = ip := ⟨_, rfl⟩
                          rw [← hiN] at hxu
                          rw [← hjN] at hyu
                          have zip : (k : Int) = (ip : Int) + 1 := by omega
                          have ea : ((ip : Int) + 1).toNat = iN := by omega
                          have ec : ((ip : Int)).toNat = jN := by omega
                          have pa : (0 : Int) ≤ (ip : Int) + 1 := by omega
                          have pa' : (0 : Int) < (ip : Int) + 1 := by omega
                          have ra' : IntKind.i64.wrap ((ip : Int) + 1) = (ip : Int) + 1 := by rw [IntKind.wrap_i64]; omega
                          have pc : (0 : Int) ≤ (ip : Int) := by omega
                          have rc'' : IntKind.i64.wrap ((ip : Int)) = (ip : Int) := by rw [IntKind.wrap_i64]; omega
                          have ba : (ip : Int) + 1 < (GL : Int) := by omega
                          have bc : (ip : Int) < (GL : Int) := by omega
                          have X0 := cell_grown (by exact hgb) g1'
                          have X1 := cell_grown (by exact hrl) hxu
                          have X2 := cell_grown (by exact hrl) hyu
                          have hyv := hyu
                          rw [hjN] at hyv
                          have X2b := cell_grown (by exact hrl) hyv
                          have hxv := hxu
                          rw [hiN, ← hip] at hxv
                          have X1b := cell_grown (by exact hrl) hxv
                          have E0 := cell_grown (by exact hxl) e0
                          have E1 := cell_grown (by exact hxl) e1
                          have E2 := cell_grown (by exact hxl) e2
                          have F0 := cell_grown (by exact hyl) c0
                          have F1 := cell_grown (by exact hyl) c1
                          have F2 := cell_grown (by exact hyl) c2
                          have hxk := hxu
                          rw [hiN] at hxk
                          have X1c := cell_grown (by exact hrl) hxk
                          clear hxu hyu hxv hyv e0 e1 e2 c0 c1 c2 hst hsm1 hsm2 hn1 hxat hyat hnm hlen hlen' hrat hrow hS hles
                          go_wp2_with fail
                          try simp only [zip]
                          go_quiet_grown (first | (go_at_call 24; refine Calls.grown_of (LG.out _)))
                          have HB6 : Aside (Below w8.heap.size w8 (grow (wr.drewN nq) osq)) := bel_then HSS.out.2 (below_growN _ _ _)
                          clear X0 X1 X2 X1b X1c X2b E0 E1 E2 F0 F1 F2 LG ea ec
                          generalize grow (wr.drewN nq) osq = w9 at HB6 ⊢
                          clear nq osq
                          go_wp2
                          go_roundg (GL - (k + 1))
                          case measure => omega
                          case rel => exact ⟨k + 1, S' - num, by omega, by first | go_num | (congr 1; omega), Nat.le_refl _, rfl, HST.out, HB6.out⟩
                    · have hltz : ¬ ((k : Int) < (GL : Int)) := by omega
                      have hz : S' = 0 := by
                        have h1 := HSS.out.1
                        rw [List.take_of_length_le (by rw [HGS.out]; omega), show sumG gs = sumR q rs from HGP.out.2] at h1
                        omega
                      subst hz
                      have HBE := Hid.mk (bel_then ST8.out.2.2.2.2.2.2.2 HSS.out.2)
                      clear HSS ST9 HG9
                      go_wp2
                      go_ret
                      exact ⟨rfl, HBE.out⟩
            · clear hok
              go_wp2
              go_ret
              exact ⟨rfl, bel_box ST6.out.2.2.2.2.2.2.2 _⟩
end Go.Proofs.YtjceppinfjbegaaGreatDoor

