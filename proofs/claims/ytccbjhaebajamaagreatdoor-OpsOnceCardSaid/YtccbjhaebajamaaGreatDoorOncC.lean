import Derived.Test.YtccbjhaebajamaaGreatDoorOncB
set_option linter.unusedSimpArgs false
set_option linter.unusedVariables false
namespace Go.Proofs.YtccbjhaebajamaaGreatDoor
open Go.RowKit

set_option maxRecDepth 100000 in
set_option maxHeartbeats 1600000 in
/-- rowsOf, of a job that leaves each row once. -/
theorem rowsOf_dist (tb to_ tk tcap : Nat) (vc vr : Value) (cs : List Cl) (rs : List (List Vl)) (j : Jb) (w : World) (hcode : j.code = 6) (hrv : ∀ r ∈ rs, ∀ x ∈ r, rvB x = true) (hE : Env w) (htk : 0 < tk) (htb : tb < w.heap.size) (t0 : w.cell? ⟨tb, to_, none⟩ = some vc) (t1 : w.cell? ⟨tb, to_ + 1, none⟩ = some vr)
    (hc : ColsIs w vc cs) (hr : RowsIs w vr rs) (h1 : 1 ≤ cs.length) (h6 : cs.length ≤ 100) (hl : ∀ r ∈ rs, r.length = cs.length) (h60 : rs.length ≤ 100) :
    Calls Tryz.prog 49 #[.agg j.cells, .slice (some ⟨tb, to_, none⟩) tk tcap] w fun e w' => ∃ v1 us1, e = .returned (.tuple #[v1, .slice none 0 0, .nilIface]) ∧ w'.ownsRow w.heap.size 48 1 v1 (distF rs).2.length us1 ∧ HeldRows w' w.heap.size us1 (distF rs).2 ∧ Below w.heap.size w w' := by
  have hmf : ∀ (fn : Fn) (first cap : Array Value) (w : World), (Instr.makeFunc fn first cap).run Tryz.prog w = .ok (.func fn first cap) w := fun _ _ _ _ => rfl
  have HCP := Hid.mk (fun W (hW : Below w.heap.size w W) => copied_any vr rs cs.length W (hr.below hW) hl h1 h6 h60)
  have HPT := Hid.mk (fun v us W (hW : Below w.heap.size w W) hv hH => distinct_any v rs us (w.heap.size + 1) W hv hH (fun r hr' => ⟨by have := hl r hr'; omega, by have := hl r hr'; omega, hrv r hr'⟩) h60 (hE.below hW))
  have htk' : (0 : Int) < (tk : Int) := by omega
  clear hl hrv hE
  obtain ⟨va, vcp, rfl, -⟩ := hc
  obtain ⟨ra, rcp, rfl, -⟩ := hr
  have hJ0 : JobAt (w.alloc (.cells j.cells 36)) w.heap.size j := fun k v hk => by rw [World.cell?_alloc_at _ _ _ _ rfl]; exact hk
  have HJ0 := Hid.mk hJ0
  clear hJ0
  unfold Jb.cells at HJ0 ⊢
  rw [hcode] at HJ0 ⊢
  have HCD := Hid.mk hcode
  clear hcode
  all_goals
    go_enter Tryz.func49, Tryz.ntmps49
    go_wp2_with fail
    go_cut [7, 8] (fun p v wx => ∃ (ab : Nat) (us : List Value), p = .pointer (some ⟨ab, 0, none⟩) ∧ wx.cell? ⟨ab, 0, none⟩ = some (.slice va cs.length vcp) ∧ ab < wx.heap.size ∧ wx.ownsRow (w.heap.size + 1) 48 1 v rs.length us ∧ HeldRows wx (w.heap.size + 1) us rs ∧ JobAt wx w.heap.size j ∧ Below w.heap.size w wx)
    case first =>
      go_region_held3 (fun w' => w'.cell? ⟨tb, to_, none⟩ = some (.slice va cs.length vcp) ∧ w'.cell? ⟨tb, to_ + 1, none⟩ = some (.slice ra rs.length rcp))
        (first | (go_keep; done) | exact ⟨(World.cell?_setCell_other _ _ _ _ (by intro e; simp at e; try omega)).trans k0, (World.cell?_setCell_other _ _ _ _ (by intro e; simp at e; try omega)).trans k1⟩)
        (first | (go_at_call 66; refine (HCP.out _ (by first | exact (below_box _ _).drew | exact (bel_box (below_box _ _) _).drew)).mono ?_; rintro e w1 ⟨v1, us, rfl, ho1, hh1, hb1⟩; have hb01 := bel_then (show Below w.heap.size w _ from (by first | exact (below_box _ _).drew | exact (bel_box (below_box _ _) _).drew)) hb1; have k0 := (hb01.cell (p := ⟨tb, to_, none⟩) htb).trans t0; have k1 := (hb01.cell (p := ⟨tb, to_ + 1, none⟩) htb).trans t1; have hz1 : tb < w1.heap.size := Nat.lt_of_lt_of_le htb hb01.size; (try (have kb := (hb1.cell (p := ⟨w.heap.size + 1, 0, none⟩) (by simp)).trans (show _ = some (Value.slice none 0 0) by simp); have kf := (hb1.frozen (p := ⟨w.heap.size + 1, 0, none⟩) (by simp)).trans (show _ = false by simp); have kz : w.heap.size + 1 < w1.heap.size := by (have := hb1.size; simp at this; omega)))))
      all_goals go_wp2_with fail
      all_goals go_meet
      · have hJ1 : JobAt w1 w.heap.size j := fun k v hk => (hb1.cell (p := ⟨w.heap.size, k, none⟩) (by simp)).trans (by simpa using HJ0.out k v hk)
        exact ⟨w1.heap.size, us, rfl, by simp, by simp, (own_mono (by simp) ho1).alloc _, (hh1.mono (by simp)).below (below_box _ _), hJ1.below (below_box _ _) (by have := hb1.size; simp at this; omega), bel_box hb01 _⟩
      · have hJ1 : JobAt w1 w.heap.size j := fun k v hk => (hb1.cell (p := ⟨w.heap.size, k, none⟩) (by simp; omega)).trans (by simpa using HJ0.out k v hk)
        exact ⟨w.heap.size + 1, us, rfl, World.cell?_setCell_same _ _ _ kb, by simpa using kz, own_mono (by simp) (ownsRow_setCell_below ho1 (by simp) _), (HeldRows.set hh1 (by simp)).mono (by simp), fun k v hk => (World.cell?_setCell_other _ _ _ _ (by intro e; simp at e)).trans (hJ1 k v hk), hb01.setCell (by show w.heap.size ≤ w.heap.size + 1; omega) _⟩
    case rest =>
      obtain ⟨ab, us, rfl, hab, habl, hv, hH, hJ, hbx⟩ := hcut
      have hwx := hbx.size
      have HP2 := Hid.mk (HPT.out u8 us wc hbx hv hH)
      have j1 : wc.cell? ⟨w.heap.size, 1, none⟩ = some (.int .i64 6) := by have := hJ 1 (.int .i64 j.code) rfl; rw [HCD.out] at this; exact this
      have hjl := hJ.lt
      have HB := Hid.mk hbx
      obtain ⟨xa, xc, rfl⟩ := own_slice hv
      clear hbx hv hH hJ hab HPT HCP HJ0 t0 t1
      go_wp2_with (go_at_call 76; refine HP2.out.mono ?_; rintro e w5 ⟨v1, us1, rfl, o1, o2, hb5⟩)
      go_ret3
      exact ⟨_, us1, rfl, own_mono hwx o1, o2.mono (by omega), bel_then HB.out hb5⟩

set_option maxHeartbeats 800000 in
theorem wrong_dist (va : Option Addr) (hb ho tk cin : Nat) (v0 : Value) (j : Jb) (w : World) (hcode : j.code = 6) (htk : 0 < tk) (hhb : hb < w.heap.size) (h0 : w.cell? ⟨hb, ho, none⟩ = some v0) :
    Calls Tryz.prog 64 #[.agg j.cells, .slice (some ⟨hb, ho, none⟩) tk cin] w fun e w' => e = .returned .nilIface ∧ Below w.heap.size w w' := by
  obtain ⟨code, hcd⟩ : ∃ k, j.code = k := ⟨_, rfl⟩
  unfold Jb.cells
  rw [hcd] at hcode ⊢
  clear hcd
  subst hcode
  have htk' : (0 : Int) < (tk : Int) := by omega
  go_enter Tryz.func64, Tryz.ntmps64
  go_wp2
  go_ret
  exact ⟨rfl, below_box _ _⟩
theorem right_vals {cs : List Cl} {rs : List (List Vl)} (h : rightB cs rs = true) : ∀ r ∈ rs, ∀ x ∈ r, rvB x = true := by
  intro r hr x hx
  obtain ⟨h1, h2, h3⟩ := right_cols h
  obtain ⟨l1, l2, l3, l4⟩ := right_len h
  obtain ⟨i, hi, rfl⟩ := List.mem_iff_getElem.1 hx
  exact (rowT_at (h3 r hr) i hi (by rw [← l4 r hr]; exact hi)).2
/-- What is told of one table by a job that leaves each row once. -/
def distNo (t : Tb) : Int := if rightB t.1 t.2 = false then 1 else 0
set_option maxRecDepth 100000 in
theorem one_dist (j : Jb) (vc vr : Value) (cs : List Cl) (rs : List (List Vl)) (W : World) (H : Nat) (hH : W.heap.size = H) (hc : ColsIs W vc cs) (hr : RowsIs W vr rs) (hcode : j.code = 6) (hE : Env W) :
    Calls Tryz.prog 9 #[.agg j.cells, .slice (some ⟨H, 0, none⟩) 1 1] (W.alloc (.cells #[vc, vr] 25)) fun e w' => OneRes e w' W.heap.size (distNo (cs, rs) = 0) (cs, (distF rs).2) ∧ Below (W.alloc (.cells #[vc, vr] 25)).heap.size (W.alloc (.cells #[vc, vr] 25)) w' := by
  have ht := tabs_new W vc vr (cs, rs) 25 H hH hc hr
  have hcd : 1 ≤ j.code ∧ j.code ≤ 8 := by rw [hcode]; exact ⟨by decide, by decide⟩
  have hE' := hE.below (below_box W (.cells #[vc, vr] 25))
  cases hrt : rightB cs rs
  · refine (one_bad H 0 1 1 j 1 _ hcd (by decide) (fun W' H' hW' _ => ?_)).mono ?_
    · exact do_arg H 0 1 [(cs, rs)] (j.withOuts (.slice (some ⟨H', 0, none⟩) 1 2)) W' (ht.below hW' (by simp; omega)) (by have := hW'.size; simp at this; omega) (by simp) ⟨(cs, rs), by simp, hrt⟩
    · rintro e w' ⟨rfl, h3⟩
      exact ⟨Or.inr ⟨by unfold distNo; rw [if_pos hrt]; decide, rfl⟩, h3⟩
  · obtain ⟨hr1, hr2, hr3, hr4⟩ := right_len hrt
    refine (one_ok H 0 1 1 j (cs, (distF rs).2) _ hcd (fun W' H' hW' _ => ?_)).mono ?_
    · have ht' := ht.below hW' (by simp; omega)
      obtain ⟨vc', vr', c0, c1, hc', hrs'⟩ := ht' 0 (by simp)
      have hHW : H < W'.heap.size := by have := hW'.size; simp at this; omega
      have hmk : sizesI (j.withOuts (.slice (some ⟨H', 0, none⟩) 1 2)).code = (((1 : Nat) : Int), ((1 : Nat) : Int)) := by show sizesI j.code = _; rw [hcode]; rfl
      refine do_ok1 H 0 1 [(cs, rs)] (j.withOuts (.slice (some ⟨H', 0, none⟩) 1 2)) W' ht' hHW (by simp) (by simp) (by intro x hx'; simp at hx'; rw [hx']; exact hrt) cs (distF rs).2 [] (Nat.le_trans (dist_len rs) hr3) (cols_size hc') ?_ (fun V hV => ?_)
      · intro V B g cap us hV ho hh
        obtain ⟨b, o, c, hc0, hgl, hbl, hat⟩ := head_of ho hh hr1
        exact cols_ok _ (some ⟨H', 0, none⟩) cap 2 _ 1 1 cs V rfl hmk (by decide) (by decide) (fun V' hV' => wrong_dist none g 0 1 cap _ _ V' hcode (by decide) (Nat.lt_of_lt_of_le hgl hV'.size) ((hV'.cell (p := ⟨g, 0, none⟩) hgl).trans hc0)) (fun V' hV' => columns_same g 0 1 cap b o cs.length c cs _ V' (Or.inr (Or.inr (Or.inr (Or.inr (Or.inr hcode))))) (by decide) (Nat.lt_of_lt_of_le hgl hV'.size) ((hV'.cell (p := ⟨g, 0, none⟩) hgl).trans hc0) rfl (by omega) (Nat.lt_of_lt_of_le hbl hV'.size) (hat.below hV' hbl))
      · refine (rowsOf_dist H 0 1 1 vc' vr' cs rs (j.withOuts (.slice (some ⟨H', 0, none⟩) 1 2)) V hcode (right_vals hrt) ((hE'.below hW').below hV) (by decide) (Nat.lt_of_lt_of_le hHW hV.size) ((hV.cell (p := ⟨H, 0, none⟩) hHW).trans (by simpa using c0)) ((hV.cell (p := ⟨H, 0 + 1, none⟩) hHW).trans (by simpa using c1)) (hc'.below hV) (hrs'.below hV) hr1 (by omega) hr4 (by omega)).mono ?_
        rintro e w' ⟨v1, us1, h1, h2, h3, hb⟩
        exact ⟨v1, .slice none 0 0, us1, [], h1, h2, h3, World.ownsRow_nil _ _ _ _, HeldRows.nil _ _, hb⟩
    · rintro e w' ⟨x, y, rfl, h1, h2, h3⟩
      exact ⟨Or.inl ⟨by unfold distNo; rw [if_neg (by simp [hrt])], x, y, rfl, h1.mono (by simp), h2.mono (by simp)⟩, h3⟩
end Go.Proofs.YtccbjhaebajamaaGreatDoor
