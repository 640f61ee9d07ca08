import Derived.Test.YtjceppinfjbegaaGreatDoorJonF
set_option linter.unusedSimpArgs false
set_option linter.unusedVariables false
namespace Go.Proofs.YtjceppinfjbegaaGreatDoor
open Go.RowKit

theorem rowsC_of_held {w : World} {B B' : Nat} {v : Value} {us : List Value} {rs : List (List Vl)} (h5 : w.ownsRow B 62 1 v rs.length us) (h6 : HeldRows w B' us rs) : RowsC w v rs := by
  have h0 := h5
  obtain ⟨hxl, ⟨rfl, hn⟩ | ⟨g, cap, cur, rfl, hg, hh, hn, hm, _, _⟩⟩ := h5
  · exact ⟨none, 0, by rw [hn], Or.inl (List.length_eq_zero_iff.1 hn)⟩
  · refine ⟨some ⟨g, 0, none⟩, cap, rfl, Or.inr ⟨g, 0, rfl, (h0.lt g rfl).2, fun j hj => ?_⟩⟩
    have hju : j < us.length := by rw [h6.1]; exact hj
    refine ⟨us[j], ?_, ?_⟩
    · have e := h0.cellAt j (by omega)
      rw [show 0 + j = j by omega, e, List.getElem?_eq_getElem hju]
    · have hI := row_of_own (h6.2 j hju hj).1 (h6.2 j hju hj).2
      obtain ⟨a, c, e, hs, hor⟩ := hI
      refine ⟨a, c, e, ?_, hs, hor⟩
      obtain ⟨-, ⟨e', hn0⟩ | ⟨g', cap', cur', e', -, -, hcap, -⟩⟩ := (h6.2 j hju hj).1
      · rw [hn0]; exact Nat.zero_le _
      · rw [e'] at e
        simp only [Value.slice.injEq] at e
        omega

set_option maxRecDepth 100000 in
set_option maxHeartbeats 3200000 in
/-- rowsOf, of a job that joins. -/
theorem rowsOf_join (tb tcap nb no cc p q : Nat) (vc vr vc2 vr2 : Value) (cs ds : List Cl) (rs rs2 : List (List Vl)) (x y : ByteArray) (j : Jb) (w : World) (hcode : j.code = 7) (hj : j.cols = .slice (some ⟨nb, no, none⟩) 2 cc) (hnb : nb < w.heap.size) (s0 : w.cell? ⟨nb, no, none⟩ = some (.string x)) (s1 : w.cell? ⟨nb, no + 1, none⟩ = some (.string y)) (hp : placeN cs x.data.toList = some p) (hq : placeN ds y.data.toList = some q) (htb : tb < w.heap.size) (t0 : w.cell? ⟨tb, 0, none⟩ = some vc) (t1 : w.cell? ⟨tb, 1, none⟩ = some vr) (t2 : w.cell? ⟨tb, 2, none⟩ = some vc2) (t3 : w.cell? ⟨tb, 3, none⟩ = some vr2)
    (hc : ColsIs w vc cs) (hr : RowsIs w vr rs) (hc2 : ColsIs w vc2 ds) (hr2 : RowsC w vr2 rs2) (hl2 : ∀ r ∈ rs2, r.length = ds.length) (h602 : rs2.length ≤ 100) (h12 : 1 ≤ ds.length) (h62 : ds.length ≤ 40) (h1 : 1 ≤ cs.length) (h6 : cs.length ≤ 40) (hl : ∀ r ∈ rs, r.length = cs.length) (h60 : rs.length ≤ 100) :
    Calls Tryz.prog 49 #[.agg j.cells, .slice (some ⟨tb, 0, none⟩) 2 tcap] w fun e w' => ∃ v1 us1, e = .returned (.tuple #[v1, .slice none 0 0, .nilIface]) ∧ w'.ownsRow w.heap.size 62 1 v1 (joinL rs rs2 p q).length us1 ∧ HeldRows w' w.heap.size us1 (joinL rs rs2 p q) ∧ Below w.heap.size w w' := by
  have hmf : ∀ (fn : Fn) (first cap : Array Value) (w : World), (Instr.makeFunc fn first cap).run Tryz.prog w = .ok (.func fn first cap) w := fun _ _ _ _ => rfl
  have HCP := Hid.mk (fun W (hW : Below w.heap.size w W) => copied_any vr rs cs.length W (hr.below hW) hl h1 (by omega) h60)
  have hpl := place_some hp
  have hql := place_some hq
  have HJN := Hid.mk (fun (v : Value) W (hW : Below w.heap.size w W) (hv : RowsC W v rs) => joined_any v vr2 rs rs2 cs.length ds.length p q W hv (hr2.below hW) hl hl2 h1 (by omega) h12 (by omega) hpl hql h60 h602)
  obtain ⟨b1, o1, vcp, rfl, hb1l, hat1⟩ := cols_at hc h1
  obtain ⟨b2, o2, vcp2, rfl, hb2l, hat2⟩ := cols_at hc2 h12
  have HPL : Hid (∀ (v : Value) (nm : ByteArray) (k : Int) (W : World), Below w.heap.size w W → (v = .slice (some ⟨b1, o1, none⟩) cs.length vcp ∧ nm = x ∧ k = (p : Int) ∨ v = .slice (some ⟨b2, o2, none⟩) ds.length vcp2 ∧ nm = y ∧ k = (q : Int)) → Calls Tryz.prog 71 #[v, .string nm] W fun e w' => e = .returned (.int .i64 k) ∧ Below W.heap.size W w') := by
    refine Hid.mk ?_
    rintro v nm k W hW (⟨rfl, rfl, rfl⟩ | ⟨rfl, rfl, rfl⟩)
    · rw [← place_nat hp]
      exact place_in b1 o1 cs.length vcp cs nm W rfl (by omega) (by have := hW.size; omega) (hat1.below hW hb1l)
    · rw [← place_nat hq]
      exact place_in b2 o2 ds.length vcp2 ds nm W rfl (by omega) (by have := hW.size; omega) (hat2.below hW hb2l)
  clear hl hl2 hc hc2 hat1 hat2 hp hq
  obtain ⟨ra, rcp, rfl, -⟩ := hr
  obtain ⟨ra2, rcp2, rfl, -⟩ := hr2
  have hJ0 : JobAt (w.alloc (.cells j.cells 28)) w.heap.size j := fun k v hk => by rw [World.cell?_alloc_at _ _ _ _ rfl]; exact hk
  have HJ0 := Hid.mk hJ0
  clear hJ0
  unfold Jb.cells at HJ0 ⊢
  rw [hcode, hj] at HJ0 ⊢
  have HCD := Hid.mk (And.intro hcode hj)
  clear hcode hj
  all_goals
    go_enter Tryz.func49, Tryz.ntmps49
    go_wp2_with fail
    go_cut [7, 8] (fun p v wx => ∃ (ab : Nat) (us : List Value), p = .pointer (some ⟨ab, 0, none⟩) ∧ wx.cell? ⟨ab, 0, none⟩ = some (.slice (some ⟨b1, o1, none⟩) cs.length vcp) ∧ ab < wx.heap.size ∧ wx.ownsRow (w.heap.size + 1) 62 1 v rs.length us ∧ HeldRows wx (w.heap.size + 1) us rs ∧ JobAt wx w.heap.size j ∧ Below w.heap.size w wx)
    case first =>
      go_region_held3 (fun w' => w'.cell? ⟨tb, 0, none⟩ = some (.slice (some ⟨b1, o1, none⟩) cs.length vcp) ∧ w'.cell? ⟨tb, 1, none⟩ = some (.slice ra rs.length rcp))
        (first | (go_keep; done) | exact ⟨(World.cell?_setCell_other _ _ _ _ (by intro e; simp at e; try omega)).trans k0, (World.cell?_setCell_other _ _ _ _ (by intro e; simp at e; try omega)).trans k1⟩)
        (first | (go_at_call 80; refine (HCP.out _ (by first | exact (below_box _ _).drew | exact (bel_box (below_box _ _) _).drew)).mono ?_; rintro e w1 ⟨v1, us, rfl, ho1, hh1, hb1⟩; have hb01 := bel_then (show Below w.heap.size w _ from (by first | exact (below_box _ _).drew | exact (bel_box (below_box _ _) _).drew)) hb1; have k0 := (hb01.cell (p := ⟨tb, 0, none⟩) htb).trans t0; have k1 := (hb01.cell (p := ⟨tb, 1, none⟩) htb).trans t1; have hz1 : tb < w1.heap.size := Nat.lt_of_lt_of_le htb hb01.size; (try (have kb := (hb1.cell (p := ⟨w.heap.size + 1, 0, none⟩) (by simp)).trans (show _ = some (Value.slice none 0 0) by simp); have kf := (hb1.frozen (p := ⟨w.heap.size + 1, 0, none⟩) (by simp)).trans (show _ = false by simp); have kz : w.heap.size + 1 < w1.heap.size := by (have := hb1.size; simp at this; omega)))))
      all_goals go_wp2_with fail
      all_goals go_meet
      · have hJ1 : JobAt w1 w.heap.size j := fun k v hk => (hb1.cell (p := ⟨w.heap.size, k, none⟩) (by simp)).trans (by simpa using HJ0.out k v hk)
        exact ⟨w1.heap.size, us, rfl, by simp, by simp, (own_mono (by simp) ho1).alloc _, (hh1.mono (by simp)).below (below_box _ _), hJ1.below (below_box _ _) (by have := hb1.size; simp at this; omega), bel_box hb01 _⟩
      · have hJ1 : JobAt w1 w.heap.size j := fun k v hk => (hb1.cell (p := ⟨w.heap.size, k, none⟩) (by simp; omega)).trans (by simpa using HJ0.out k v hk)
        exact ⟨w.heap.size + 1, us, rfl, World.cell?_setCell_same _ _ _ kb, by simpa using kz, own_mono (by simp) (ownsRow_setCell_below ho1 (by simp) _), (HeldRows.set hh1 (by simp)).mono (by simp), fun k v hk => (World.cell?_setCell_other _ _ _ _ (by intro e; simp at e)).trans (hJ1 k v hk), hb01.setCell (by show w.heap.size ≤ w.heap.size + 1; omega) _⟩
    case rest =>
      obtain ⟨ab, us, rfl, hab, habl, hv, hH, hJ, hbx⟩ := hcut
      have hwx := hbx.size
      have j1 : wc.cell? ⟨w.heap.size, 1, none⟩ = some (.int .i64 7) := by have := hJ 1 (.int .i64 j.code) rfl; rw [HCD.out.1] at this; exact this
      have j4 : wc.cell? ⟨w.heap.size, 4, none⟩ = some (.slice (some ⟨nb, no, none⟩) 2 cc) := by have := hJ 4 j.cols rfl; rw [HCD.out.2] at this; exact this
      have hjl := hJ.lt
      have z2 := (hbx.cell (p := ⟨tb, 2, none⟩) htb).trans t2
      have z3 := (hbx.cell (p := ⟨tb, 3, none⟩) htb).trans t3
      have z4 := (hbx.cell (p := ⟨nb, no, none⟩) hnb).trans s0
      have z5 := (hbx.cell (p := ⟨nb, no + 1, none⟩) hnb).trans s1
      have KX : Hid (∀ V, Below wc.heap.size wc V → V.cell? ⟨tb, 3, none⟩ = some (.slice ra2 rs2.length rcp2) ∧ V.cell? ⟨ab, 0, none⟩ = some (.slice (some ⟨b1, o1, none⟩) cs.length vcp) ∧ V.cell? ⟨w.heap.size, 4, none⟩ = some (.slice (some ⟨nb, no, none⟩) 2 cc) ∧ V.cell? ⟨nb, no, none⟩ = some (.string x) ∧ V.cell? ⟨tb, 2, none⟩ = some (.slice (some ⟨b2, o2, none⟩) ds.length vcp2) ∧ V.cell? ⟨nb, no + 1, none⟩ = some (.string y)) := Hid.mk (fun V hV => ⟨(hV.cell (p := ⟨tb, 3, none⟩) (by show tb < _; omega)).trans z3, (hV.cell (p := ⟨ab, 0, none⟩) habl).trans hab, (hV.cell (p := ⟨w.heap.size, 4, none⟩) hjl).trans j4, (hV.cell (p := ⟨nb, no, none⟩) (by show nb < _; omega)).trans z4, (hV.cell (p := ⟨tb, 2, none⟩) (by show tb < _; omega)).trans z2, (hV.cell (p := ⟨nb, no + 1, none⟩) (by show nb < _; omega)).trans z5⟩)
      have HB := Hid.mk (And.intro hbx (rowsC_of_held hv hH))
      obtain ⟨xa, xc, rfl⟩ := own_slice hv
      clear hbx hv hH hJ HCP HJ0 t0 t1 t2 t3 s0 s1
      have HBD := Hid.mk (And.intro (show Below wc.heap.size wc wc.drew from (Below.refl _ _).drew) HB.out.1.drew)
      go_wp2_with fail
      go_region_held3 (fun V => V.cell? ⟨tb, 3, none⟩ = some (.slice ra2 rs2.length rcp2) ∧ V.cell? ⟨ab, 0, none⟩ = some (.slice (some ⟨b1, o1, none⟩) cs.length vcp) ∧ V.cell? ⟨w.heap.size, 4, none⟩ = some (.slice (some ⟨nb, no, none⟩) 2 cc) ∧ V.cell? ⟨nb, no, none⟩ = some (.string x) ∧ V.cell? ⟨tb, 2, none⟩ = some (.slice (some ⟨b2, o2, none⟩) ds.length vcp2) ∧ V.cell? ⟨nb, no + 1, none⟩ = some (.string y))
        (first | (go_keep; done) | exact KX.out _ HW3.out | exact KX.out _ HW2.out | exact KX.out _ HW1.out)
        (first | (go_at_call 90; refine (HJN.out _ _ HB2.out (HB.out.2.below HW2.out)).mono ?_; rintro e w3 ⟨v3, us3, rfl, ho3, hh3, hb3⟩; have HW3 := Hid.mk (bel_then HW2.out hb3); have HB3 := Hid.mk (bel_then HB2.out hb3)) | (go_at_call 71; refine (HPL.out _ _ _ _ HB1.out (by first | exact Or.inl ⟨rfl, rfl, rfl⟩ | exact Or.inr ⟨rfl, rfl, rfl⟩)).mono ?_; rintro e w2 ⟨rfl, hb2⟩; have HW2 := Hid.mk (bel_then HW1.out hb2); have HB2 := Hid.mk (bel_then HB1.out hb2)) | (go_at_call 71; refine (HPL.out _ _ _ _ HBD.out.2 (by first | exact Or.inl ⟨rfl, rfl, rfl⟩ | exact Or.inr ⟨rfl, rfl, rfl⟩)).mono ?_; rintro e w1 ⟨rfl, hb1⟩; have HW1 := Hid.mk (bel_then HBD.out.1 hb1); have HB1 := Hid.mk (bel_then HBD.out.2 hb1)))
      go_wp2
      go_ret3
      exact ⟨_, us3, rfl, own_mono (by have := HB2.out.size; omega) ho3, hh3.mono (by have := HB2.out.size; omega), HB3.out⟩
end Go.Proofs.YtjceppinfjbegaaGreatDoor

