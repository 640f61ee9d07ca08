import Derived.Test.YtccbjhaebajamaaGreatDoorOpsH
import Derived.Deep.RegionHeld3
import Derived.Deep.DeepCutAuto
set_option linter.unusedSimpArgs false
set_option linter.unusedVariables false
namespace Go.Proofs.YtccbjhaebajamaaGreatDoor
open Go.RowKit

theorem HeldRows.set {w : World} {B R o : Nat} {v : Value} {us : List Value} {rs : List (List Vl)} (h : HeldRows w B us rs) (hR : R < B) : HeldRows (w.setCell ⟨R, o, none⟩ v) B us rs :=
  ⟨h.1, fun j hj hj' => ⟨ownsRow_setCell_below (h.2 j hj hj').1 hR _, (h.2 j hj hj').2⟩⟩

set_option maxRecDepth 100000 in
set_option maxHeartbeats 1600000 in
/-- rowsOf, of a job that holds a column against something. -/
theorem rowsOf_test (tb to_ tk tcap : Nat) (vc vr : Value) (cs : List Cl) (rs : List (List Vl)) (j : Jb) (w : World) (hcode : j.code = 1 ∨ j.code = 9) (htk : 0 < tk) (htb : tb < w.heap.size) (t0 : w.cell? ⟨tb, to_, none⟩ = some vc) (t1 : w.cell? ⟨tb, to_ + 1, none⟩ = some vr)
    (hc : ColsIs w vc cs) (hr : RowsIs w vr rs) (h1 : 1 ≤ cs.length) (h6 : cs.length ≤ 100) (hl : ∀ r ∈ rs, r.length = cs.length) (h60 : rs.length ≤ 100) (ho1 : okArg cs j.left) (ho2 : okArg cs j.right) :
    Calls Tryz.prog 49 #[.agg j.cells, .slice (some ⟨tb, to_, none⟩) tk tcap] w fun e w' => ∃ v1 v2 us1 us2, e = .returned (.tuple #[v1, v2, .nilIface]) ∧ w'.ownsRow w.heap.size 48 1 v1 (rs.filter (testB cs j)).length us1 ∧ HeldRows w' w.heap.size us1 (rs.filter (testB cs j)) ∧ w'.ownsRow w.heap.size 48 1 v2 (rs.filter (fun r => !testB cs j r)).length us2 ∧ HeldRows w' w.heap.size us2 (rs.filter (fun r => !testB cs j r)) ∧ Below w.heap.size w w' := by
  have hmf : ∀ (fn : Fn) (first cap : Array Value) (w : World), (Instr.makeFunc fn first cap).run Tryz.prog w = .ok (.func fn first cap) w := fun _ _ _ _ => rfl
  have HCP := Hid.mk (fun W (hW : Below w.heap.size w W) => copied_any vr rs cs.length W (hr.below hW) hl h1 h6 h60)
  have HPT := Hid.mk (fun v us B ab W (hW : Below w.heap.size w W) hv hH hB hj hab habl => parted_any v vc cs rs us j w.heap.size ab B W hv hH hB hj hab habl (hc.below hW) h6 hl h60 ho1 ho2)
  have htk' : (0 : Int) < (tk : Int) := by omega
  clear hl ho1 ho2
  obtain ⟨va, vcp, rfl, -⟩ := hc
  obtain ⟨ra, rcp, rfl, -⟩ := hr
  have hJ0 : JobAt (w.alloc (.cells j.cells 36)) w.heap.size j := fun k v hk => by rw [World.cell?_alloc_at _ _ _ _ rfl]; exact hk
  have HJ0 := Hid.mk hJ0
  clear hJ0
  unfold Jb.cells at HJ0 ⊢
  rcases hcode with hcd | hcd
  all_goals
    rw [hcd] at HJ0 ⊢
    have HCD := Hid.mk hcd
    clear hcd
    go_enter Tryz.func49, Tryz.ntmps49
    go_wp2_with fail
    go_cut [7, 8] (fun p v wx => ∃ (ab : Nat) (us : List Value), p = .pointer (some ⟨ab, 0, none⟩) ∧ wx.cell? ⟨ab, 0, none⟩ = some (.slice va cs.length vcp) ∧ ab < wx.heap.size ∧ wx.ownsRow (w.heap.size + 1) 48 1 v rs.length us ∧ HeldRows wx (w.heap.size + 1) us rs ∧ JobAt wx w.heap.size j ∧ Below w.heap.size w wx)
    case first =>
      go_region_held3 (fun w' => w'.cell? ⟨tb, to_, none⟩ = some (.slice va cs.length vcp) ∧ w'.cell? ⟨tb, to_ + 1, none⟩ = some (.slice ra rs.length rcp))
        (first | (go_keep; done) | exact ⟨(World.cell?_setCell_other _ _ _ _ (by intro e; simp at e; try omega)).trans k0, (World.cell?_setCell_other _ _ _ _ (by intro e; simp at e; try omega)).trans k1⟩)
        (first | (go_at_call 66; refine (HCP.out _ (by first | exact (below_box _ _).drew | exact (bel_box (below_box _ _) _).drew)).mono ?_; rintro e w1 ⟨v1, us, rfl, ho1, hh1, hb1⟩; have hb01 := bel_then (show Below w.heap.size w _ from (by first | exact (below_box _ _).drew | exact (bel_box (below_box _ _) _).drew)) hb1; have k0 := (hb01.cell (p := ⟨tb, to_, none⟩) htb).trans t0; have k1 := (hb01.cell (p := ⟨tb, to_ + 1, none⟩) htb).trans t1; have hz1 : tb < w1.heap.size := Nat.lt_of_lt_of_le htb hb01.size; (try (have kb := (hb1.cell (p := ⟨w.heap.size + 1, 0, none⟩) (by simp)).trans (show _ = some (Value.slice none 0 0) by simp); have kf := (hb1.frozen (p := ⟨w.heap.size + 1, 0, none⟩) (by simp)).trans (show _ = false by simp); have kz : w.heap.size + 1 < w1.heap.size := by (have := hb1.size; simp at this; omega)))))
      all_goals go_wp2_with fail
      all_goals go_meet
      · have hJ1 : JobAt w1 w.heap.size j := fun k v hk => (hb1.cell (p := ⟨w.heap.size, k, none⟩) (by simp)).trans (by simpa using HJ0.out k v hk)
        exact ⟨w1.heap.size, us, rfl, by simp, by simp, (own_mono (by simp) ho1).alloc _, (hh1.mono (by simp)).below (below_box _ _), hJ1.below (below_box _ _) (by have := hb1.size; simp at this; omega), bel_box hb01 _⟩
      · have hJ1 : JobAt w1 w.heap.size j := fun k v hk => (hb1.cell (p := ⟨w.heap.size, k, none⟩) (by simp; omega)).trans (by simpa using HJ0.out k v hk)
        exact ⟨w.heap.size + 1, us, rfl, World.cell?_setCell_same _ _ _ kb, by simpa using kz, own_mono (by simp) (ownsRow_setCell_below ho1 (by simp) _), (HeldRows.set hh1 (by simp)).mono (by simp), fun k v hk => (World.cell?_setCell_other _ _ _ _ (by intro e; simp at e)).trans (hJ1 k v hk), hb01.setCell (by show w.heap.size ≤ w.heap.size + 1; omega) _⟩
    case rest =>
      obtain ⟨ab, us, rfl, hab, habl, hv, hH, hJ, hbx⟩ := hcut
      have hwx := hbx.size
      have HP2 := Hid.mk (HPT.out u8 us (w.heap.size + 1) ab wc hbx hv hH (by have := hJ.lt; omega) hJ hab habl)
      have hj1 := hJ 1 (.int .i64 j.code) rfl
      rw [HCD.out] at hj1
      have HB := Hid.mk hbx
      obtain ⟨xa, xc, rfl⟩ := own_slice hv
      clear hbx hv hH hJ hab HPT HCP HJ0 t0 t1
      go_wp2_with (go_at_call 67; refine HP2.out.mono ?_; rintro e w5 ⟨v1, v2, us1, us2, rfl, o1, o2, o3, o4, hb5⟩)
      go_ret3
      exact ⟨_, _, us1, us2, rfl, own_mono hwx o1, o2.mono (by omega), own_mono hwx o3, o4.mono (by omega), bel_then HB.out hb5⟩
end Go.Proofs.YtccbjhaebajamaaGreatDoor
