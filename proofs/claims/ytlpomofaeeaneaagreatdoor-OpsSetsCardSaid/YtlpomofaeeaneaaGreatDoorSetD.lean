import Derived.Test.YtlpomofaeeaneaaGreatDoorSetC
import Derived.Test.YtlpomofaeeaneaaGreatDoorOpsI
set_option linter.unusedSimpArgs false
set_option linter.unusedVariables false
namespace Go.Proofs.YtlpomofaeeaneaaGreatDoor
open Go.RowKit

set_option maxRecDepth 100000 in
set_option maxHeartbeats 1600000 in
/-- rowsOf, of a job that sets a column. -/
theorem rowsOf_set (tb to_ tk tcap : Nat) (vc vr : Value) (cs : List Cl) (rs : List (List Vl)) (j : Jb) (w : World) (nm : ByteArray) (cb co cc at_ : Nat) (hcode : j.code = 2) (hcols : j.cols = .slice (some ⟨cb, co, none⟩) 1 cc) (hnm : w.cell? ⟨cb, co, none⟩ = some (.string nm)) (hcb : cb < w.heap.size) (hat : placeN cs nm.data.toList = some at_) (hin : ∀ r ∈ rs, inNum (valIn cs r j.left).2.1 ∧ inNum (valIn cs r j.right).2.1) (htk : 0 < tk) (htb : tb < w.heap.size) (t0 : w.cell? ⟨tb, to_, none⟩ = some vc) (t1 : w.cell? ⟨tb, to_ + 1, none⟩ = some vr)
    (hc : ColsIs w vc cs) (hr : RowsIs w vr rs) (h1 : 1 ≤ cs.length) (h6 : cs.length ≤ 100) (hl : ∀ r ∈ rs, r.length = cs.length) (h60 : rs.length ≤ 100) (ho1 : okArg cs j.left) (ho2 : okArg cs j.right) :
    Calls Tryz.prog 47 #[.agg j.cells, .slice (some ⟨tb, to_, none⟩) tk tcap] w fun e w' => (((∀ r ∈ rs, inNum (setV cs j r)) ∧ ∃ v1 us1, e = .returned (.tuple #[v1, .slice none 0 0, .nilIface]) ∧ w'.ownsRow w.heap.size 50 1 v1 rs.length us1 ∧ HeldRows w' w.heap.size us1 (rs.map (setR cs j at_))) ∨ ((∃ r ∈ rs, ¬ inNum (setV cs j r)) ∧ e = .returned (.tuple #[.slice none 0 0, .slice none 0 0, errV 2]))) ∧ Below w.heap.size w w' := by
  have hmf : ∀ (fn : Fn) (first cap : Array Value) (w : World), (Instr.makeFunc fn first cap).run Tryz.prog w = .ok (.func fn first cap) w := fun _ _ _ _ => rfl
  have HCP := Hid.mk (fun W (hW : Below w.heap.size w W) => copied_apart vr rs cs.length W (hr.below hW) hl h1 h6 h60)
  have HPT := Hid.mk (fun v us W (hW : Below w.heap.size w W) hsz hv hH hp => reckoned_any v vc cs rs us j nm cb co cc at_ (w.heap.size + 1) W hv hH hp (fun W' hW' => hc.below (hW.trans (hW'.mono (by omega)))) hcols (fun W' hW' => ((hW.trans (hW'.mono (by omega))).cell (p := ⟨cb, co, none⟩) hcb).trans hnm) (Nat.lt_of_lt_of_le hcb hW.size) hat h1 h6 hl h60 ho1 ho2 hin hsz)
  have htk' : (0 : Int) < (tk : Int) := by omega
  clear hl ho1 ho2 hin hat hnm
  obtain ⟨va, vcp, rfl, -⟩ := hc
  obtain ⟨ra, rcp, rfl, -⟩ := hr
  have hJ0 : JobAt (w.alloc (.cells j.cells 36)) w.heap.size j := fun k v hk => by rw [World.cell?_alloc_at _ _ _ _ rfl]; exact hk
  have HJ0 := Hid.mk hJ0
  clear hJ0
  unfold Jb.cells at HJ0 ⊢
  rw [hcode, hcols] at HJ0 ⊢
  have HCD := Hid.mk (And.intro hcode hcols)
  clear hcode hcols
  all_goals
    go_enter Tryz.func47, Tryz.ntmps47
    go_wp2_with fail
    go_cut [7, 8] (fun p v wx => ∃ (ab : Nat) (us : List Value), p = .pointer (some ⟨ab, 0, none⟩) ∧ wx.cell? ⟨ab, 0, none⟩ = some (.slice va cs.length vcp) ∧ ab < wx.heap.size ∧ wx.ownsRow (w.heap.size + 1) 50 1 v rs.length us ∧ HeldRows wx (w.heap.size + 1) us rs ∧ us.Pairwise Apart ∧ JobAt wx w.heap.size j ∧ Below w.heap.size w wx)
    case first =>
      go_region_held3 (fun w' => w'.cell? ⟨tb, to_, none⟩ = some (.slice va cs.length vcp) ∧ w'.cell? ⟨tb, to_ + 1, none⟩ = some (.slice ra rs.length rcp))
        (first | (go_keep; done) | exact ⟨(World.cell?_setCell_other _ _ _ _ (by intro e; simp at e; try omega)).trans k0, (World.cell?_setCell_other _ _ _ _ (by intro e; simp at e; try omega)).trans k1⟩)
        (first | (go_at_call 64; refine (HCP.out _ (by first | exact (below_box _ _).drew | exact (bel_box (below_box _ _) _).drew)).mono ?_; rintro e w1 ⟨v1, us, rfl, ho1, hh1, hpw1, hb1⟩; have hb01 := bel_then (show Below w.heap.size w _ from (by first | exact (below_box _ _).drew | exact (bel_box (below_box _ _) _).drew)) hb1; have k0 := (hb01.cell (p := ⟨tb, to_, none⟩) htb).trans t0; have k1 := (hb01.cell (p := ⟨tb, to_ + 1, none⟩) htb).trans t1; have hz1 : tb < w1.heap.size := Nat.lt_of_lt_of_le htb hb01.size; (try (have kb := (hb1.cell (p := ⟨w.heap.size + 1, 0, none⟩) (by simp)).trans (show _ = some (Value.slice none 0 0) by simp); have kf := (hb1.frozen (p := ⟨w.heap.size + 1, 0, none⟩) (by simp)).trans (show _ = false by simp); have kz : w.heap.size + 1 < w1.heap.size := by (have := hb1.size; simp at this; omega)))))
      all_goals go_wp2_with fail
      all_goals go_meet
      · have hJ1 : JobAt w1 w.heap.size j := fun k v hk => (hb1.cell (p := ⟨w.heap.size, k, none⟩) (by simp)).trans (by simpa using HJ0.out k v hk)
        exact ⟨w1.heap.size, us, rfl, by simp, by simp, (own_mono (by simp) ho1).alloc _, (hh1.mono (by simp)).below (below_box _ _), hpw1, hJ1.below (below_box _ _) (by have := hb1.size; simp at this; omega), bel_box hb01 _⟩
      · have hJ1 : JobAt w1 w.heap.size j := fun k v hk => (hb1.cell (p := ⟨w.heap.size, k, none⟩) (by simp; omega)).trans (by simpa using HJ0.out k v hk)
        exact ⟨w.heap.size + 1, us, rfl, World.cell?_setCell_same _ _ _ kb, by simpa using kz, own_mono (by simp) (ownsRow_setCell_below ho1 (by simp) _), (HeldRows.set hh1 (by simp)).mono (by simp), hpw1, fun k v hk => (World.cell?_setCell_other _ _ _ _ (by intro e; simp at e)).trans (hJ1 k v hk), hb01.setCell (by show w.heap.size ≤ w.heap.size + 1; omega) _⟩
    case rest =>
      obtain ⟨ab, us, rfl, hab, habl, hv, hH, hpw, hJ, hbx⟩ := hcut
      have hwx := hbx.size
      have hP2 := HPT.out u8 us wc hbx (by have := hJ.lt; omega) hv hH hpw
      have hJ' : ∀ k v, (#[.int .i64 j.at_, .int .i64 2, j.outs, j.ins, .slice (some ⟨cb, co, none⟩) 1 cc, .string j.op, .string j.left.1, .int .i64 j.left.2.1, .int .i64 j.left.2.2.1, .string j.left.2.2.2, .string j.right.1, .int .i64 j.right.2.1, .int .i64 j.right.2.2.1, .string j.right.2.2.2, .int .i64 j.retry] : Array Value)[k]? = some v → wc.cell? ⟨w.heap.size, k, none⟩ = some v := by
        have h := hJ
        unfold JobAt Jb.cells at h
        rw [HCD.out.1, HCD.out.2] at h
        exact h
      unfold Jb.cells at hP2
      rw [HCD.out.1, HCD.out.2] at hP2
      have HP2 := Hid.mk hP2
      have j0 : wc.cell? ⟨w.heap.size, 0, none⟩ = some (.int .i64 j.at_) := hJ' 0 _ rfl
      have j1 : wc.cell? ⟨w.heap.size, 1, none⟩ = some (.int .i64 2) := hJ' 1 _ rfl
      have j2 : wc.cell? ⟨w.heap.size, 2, none⟩ = some j.outs := hJ' 2 _ rfl
      have j3 : wc.cell? ⟨w.heap.size, 3, none⟩ = some j.ins := hJ' 3 _ rfl
      have j4 : wc.cell? ⟨w.heap.size, 4, none⟩ = some (.slice (some ⟨cb, co, none⟩) 1 cc) := hJ' 4 _ rfl
      have j5 : wc.cell? ⟨w.heap.size, 5, none⟩ = some (.string j.op) := hJ' 5 _ rfl
      have j6 : wc.cell? ⟨w.heap.size, 6, none⟩ = some (.string j.left.1) := hJ' 6 _ rfl
      have j7 : wc.cell? ⟨w.heap.size, 7, none⟩ = some (.int .i64 j.left.2.1) := hJ' 7 _ rfl
      have j8 : wc.cell? ⟨w.heap.size, 8, none⟩ = some (.int .i64 j.left.2.2.1) := hJ' 8 _ rfl
      have j9 : wc.cell? ⟨w.heap.size, 9, none⟩ = some (.string j.left.2.2.2) := hJ' 9 _ rfl
      have j10 : wc.cell? ⟨w.heap.size, 10, none⟩ = some (.string j.right.1) := hJ' 10 _ rfl
      have j11 : wc.cell? ⟨w.heap.size, 11, none⟩ = some (.int .i64 j.right.2.1) := hJ' 11 _ rfl
      have j12 : wc.cell? ⟨w.heap.size, 12, none⟩ = some (.int .i64 j.right.2.2.1) := hJ' 12 _ rfl
      have j13 : wc.cell? ⟨w.heap.size, 13, none⟩ = some (.string j.right.2.2.2) := hJ' 13 _ rfl
      have j14 : wc.cell? ⟨w.heap.size, 14, none⟩ = some (.int .i64 j.retry) := hJ' 14 _ rfl
      have hjl := hJ.lt
      have HB := Hid.mk hbx
      obtain ⟨xa, xc, rfl⟩ := own_slice hv
      clear hbx hv hH hJ hJ' hpw hP2 HPT HCP HJ0 t0 t1
      go_wp2_with (go_at_call 69; refine HP2.out.mono ?_; rintro e w5 ⟨⟨hok, rfl, o1, o2⟩ | ⟨hbad, rfl⟩, hb5⟩)
      · go_ret3
        exact ⟨Or.inl ⟨hok, _, us, rfl, own_mono (by omega) o1, o2.mono (by omega)⟩, HB.out.trans (hb5.mono (by omega))⟩
      · go_ret3
        exact ⟨Or.inr ⟨hbad, rfl⟩, HB.out.trans (hb5.mono (by omega))⟩
end Go.Proofs.YtlpomofaeeaneaaGreatDoor
