import Derived.Test.YtjceppinfjbegaaGreatDoorJonJ
set_option linter.unusedSimpArgs false
set_option linter.unusedVariables false
namespace Go.Proofs.YtjceppinfjbegaaGreatDoor
open Go.RowKit

theorem own_not_at {w : World} {B n : Nat} {e : TypeId} {z : Nat} {v : Value} {xs : List Value} (h : w.ownsRow B e z v n xs) : v.ownBlock ≠ some w.heap.size := fun he => by have := (h.lt _ he).2; omega
theorem own_not_low {w : World} {B n k : Nat} {e : TypeId} {z : Nat} {v : Value} {xs : List Value} (h : w.ownsRow B e z v n xs) (hk : k < B) : v.ownBlock ≠ some k := fun he => by have := (h.lt _ he).1; omega
set_option maxRecDepth 100000 in
set_option maxHeartbeats 800000 in
/-- wrong, of a job that groups. -/
theorem wrong_grp (hb ho tk cin b o n c : Nat) (j : Jb) (r : Int) (w : World) (hcode : j.code = 8) (htk : 0 < tk) (hhb : hb < w.heap.size) (h0 : w.cell? ⟨hb, ho, none⟩ = some (.slice (some ⟨b, o, none⟩) n c))
    (hG : ∀ W, Below w.heap.size w W → Calls Tryz.prog 67 #[.agg j.cells, .slice (some ⟨b, o, none⟩) n c] W fun e w' => e = .returned (errV r) ∧ Below W.heap.size W w') :
    Calls Tryz.prog 35 #[.agg j.cells, .slice (some ⟨hb, ho, none⟩) tk cin] w fun e w' => e = .returned (errV r) ∧ Below w.heap.size w w' := by
  unfold Jb.cells at hG ⊢
  rw [hcode] at hG ⊢
  generalize errV r = ev at *
  have HT := Hid.mk hG
  have htk' : (0 : Int) < (tk : Int) := by omega
  clear hG hcode
  go_enter Tryz.func35, Tryz.ntmps35
  go_wp2_with (go_at_call 67; refine (HT.out _ (below_box _ _)).mono ?_; rintro e w1 ⟨rfl, hb1⟩)
  go_ret
  exact ⟨rfl, bel_then (below_box _ _) hb1⟩

set_option maxRecDepth 100000 in
set_option maxHeartbeats 800000 in
/-- columnsOf, of a job that groups. -/
theorem columns_group (hb ho tk cin b o n c : Nat) (cs : List Cl) (ss : List ByteArray) (j : Jb) (w : World) (hcode : j.code = 8) (htk : 0 < tk) (hhb : hb < w.heap.size) (h0 : w.cell? ⟨hb, ho, none⟩ = some (.slice (some ⟨b, o, none⟩) n c)) (hs : StrsC w j.cols ss) (he : listErr cs ss = 0)
    (hn : cs.length = n) (hn' : n ≤ 100) (hbl : b < w.heap.size) (hc : ColsAt w b o cs) :
    Calls Tryz.prog 36 #[.agg j.cells, .slice (some ⟨hb, ho, none⟩) tk cin] w fun e w' => ∃ u, e = .returned u ∧ w'.ownsRow w.heap.size 60 2 u (pickC (placesN cs ss) cs).length (colCells (pickC (placesN cs ss) cs)) ∧ Below w.heap.size w w' := by
  obtain ⟨l0, l6, hall⟩ := listErr_0 he
  obtain ⟨ca, cc, hj, hcap, hml, hat⟩ := hs
  rcases hat with h | ⟨nb, no, rfl, hl, hat⟩
  · rw [h] at l0; simp at l0
  have hkl : (placesN cs ss).length = ss.length := by simp [placesN]
  have hT := fun W (h1 : Below w.heap.size w W) => places_in nb no cc b o n c ss.length ss (placesN cs ss) cs W rfl (by omega) (by have := h1.size; omega) (hat.below h1 hl) hn hn' (by have := h1.size; omega) (hc.below h1 hbl) hkl (places_at hall)
  have hQ := fun W (h1 : Below w.heap.size w W) g gc (hg : g < W.heap.size) (hi : IntsAt W g 0 (placesN cs ss)) => pickedC_in b o c g 0 gc cs (placesN cs ss) W (hc.below h1 hbl) (by have := h1.size; omega) hi hg (places_lt hall) (by omega) (by omega)
  rw [hn] at hQ
  rw [show (pickC (placesN cs ss) cs).length = (placesN cs ss).length by simp [pickC]]
  unfold Jb.cells
  rw [hj]
  obtain ⟨code, hcd⟩ : ∃ k, j.code = k := ⟨_, rfl⟩
  rw [hcd] at hcode ⊢
  clear hcd
  subst hcode
  have hk0 : 0 < (placesN cs ss).length := by omega
  generalize hks : placesN cs ss = ks at *
  have HT := Hid.mk hT
  have HQ := Hid.mk hQ
  have htk' : (0 : Int) < (tk : Int) := by omega
  have HK := Hid.mk hk0
  clear hT hQ hn hc hj hat hall hkl l0 l6 he hks hk0 hml hcap
  go_enter Tryz.func36, Tryz.ntmps36
  go_wp2_with (first | (go_at_call 69; refine (HT.out _ (below_box _ _)).mono ?_; rintro e w1 ⟨v1, rfl, ho1, hb1⟩; obtain ⟨g, gc, rfl, hgB, hgl, hgi⟩ := ints_of ho1 HK.out) | (go_at_call 68; refine (HQ.out _ (bel_then (below_box _ _) hb1) _ _ hgl hgi).mono ?_; rintro e w2 ⟨v2, rfl, ho2, hb2⟩))
  go_ret
  exact ⟨_, rfl, own_mono (by have := hb1.size; simp at this; omega) ho2, bel_then (bel_then (below_box _ _) hb1) hb2⟩


theorem grouped_ok (v : Value) (us : List Value) (rs : List (List Vl)) (B m p q : Nat) (w : World) (hv : w.ownsRow B 62 1 v rs.length us) (hH : HeldRows w B us rs) (hl : ∀ r ∈ rs, r.length = m) (h1 : 1 ≤ m) (h6 : m ≤ 100) (h60 : rs.length ≤ 100) (hp : p < m) (hq : q < m) (hnum : ∀ r ∈ rs, inNum (vAt r q).2.1) (hsz : ∀ r ∈ rs, ∀ x ∈ r, x.2.2.size ≤ maxLen) (hBw : B ≤ w.heap.size) (hS : ∀ g ∈ grpL p q (sortR [p] rs), inNum g.2) :
    Calls Tryz.prog 91 #[v, .int .i64 p, .int .i64 q, .string ⟨#[115, 117, 109]⟩] w fun e w' => Below B w w' ∧ Kept v w w' ∧ ∃ v' us', e = .returned (.tuple #[v', .nilIface]) ∧ w'.ownsRow B 62 1 v' (grpRows (grpL p q (sortR [p] rs))).length us' ∧ HeldRows w' B us' (grpRows (grpL p q (sortR [p] rs))) := by
  refine (grouped_any v us rs B m p q w hv hH hl h1 h6 h60 hp hq hnum hsz hBw).mono ?_
  rintro e w' ⟨a, b, ⟨-, v', us', e1, c, d⟩ | ⟨h, -⟩⟩
  · exact ⟨a, b, v', us', e1, c, d⟩
  · exact absurd hS h
theorem grouped_bad (v : Value) (us : List Value) (rs : List (List Vl)) (B m p q : Nat) (w : World) (hv : w.ownsRow B 62 1 v rs.length us) (hH : HeldRows w B us rs) (hl : ∀ r ∈ rs, r.length = m) (h1 : 1 ≤ m) (h6 : m ≤ 100) (h60 : rs.length ≤ 100) (hp : p < m) (hq : q < m) (hnum : ∀ r ∈ rs, inNum (vAt r q).2.1) (hsz : ∀ r ∈ rs, ∀ x ∈ r, x.2.2.size ≤ maxLen) (hBw : B ≤ w.heap.size) (hS : ¬ ∀ g ∈ grpL p q (sortR [p] rs), inNum g.2) :
    Calls Tryz.prog 91 #[v, .int .i64 p, .int .i64 q, .string ⟨#[115, 117, 109]⟩] w fun e w' => Below B w w' ∧ Kept v w w' ∧ e = .returned (.tuple #[.slice none 0 0, errV 2]) := by
  refine (grouped_any v us rs B m p q w hv hH hl h1 h6 h60 hp hq hnum hsz hBw).mono ?_
  rintro e w' ⟨a, b, ⟨h, -⟩ | ⟨-, h⟩⟩
  · exact absurd h hS
  · exact ⟨a, b, h⟩

set_option maxRecDepth 100000 in
set_option maxHeartbeats 3200000 in
/-- rowsOf, of a job that groups by sums. -/
theorem rowsOf_group_ok (tb to_ tk tcap nb no cc p q : Nat) (vc vr : Value) (cs : List Cl) (rs : List (List Vl)) (x y : ByteArray) (j : Jb) (w : World) (hcode : j.code = 8) (hop : j.op = ⟨#[115, 117, 109]⟩) (hj : j.cols = .slice (some ⟨nb, no, none⟩) 2 cc) (hnb : nb < w.heap.size) (s0 : w.cell? ⟨nb, no, none⟩ = some (.string x)) (s1 : w.cell? ⟨nb, no + 1, none⟩ = some (.string y)) (hp : placeN cs x.data.toList = some p) (hq : placeN cs y.data.toList = some q) (htk : 0 < tk) (htb : tb < w.heap.size) (t0 : w.cell? ⟨tb, to_, none⟩ = some vc) (t1 : w.cell? ⟨tb, to_ + 1, none⟩ = some vr)
    (hc : ColsIs w vc cs) (hr : RowsIs w vr rs) (h1 : 1 ≤ cs.length) (h6 : cs.length ≤ 40) (hl : ∀ r ∈ rs, r.length = cs.length) (h60 : rs.length ≤ 100) (hnum : ∀ r ∈ rs, inNum (vAt r q).2.1) (hsz : ∀ r ∈ rs, ∀ x ∈ r, x.2.2.size ≤ maxLen) (hS : ∀ g ∈ grpL p q (sortR [p] rs), inNum g.2) :
    Calls Tryz.prog 49 #[.agg j.cells, .slice (some ⟨tb, to_, none⟩) tk tcap] w fun e w' => ∃ v1 us1, e = .returned (.tuple #[v1, .slice none 0 0, .nilIface]) ∧ w'.ownsRow w.heap.size 62 1 v1 (grpRows (grpL p q (sortR [p] rs))).length us1 ∧ HeldRows w' w.heap.size us1 (grpRows (grpL p q (sortR [p] rs))) ∧ Below w.heap.size w w' := by
  have hmf : ∀ (fn : Fn) (first cap : Array Value) (w : World), (Instr.makeFunc fn first cap).run Tryz.prog w = .ok (.func fn first cap) w := fun _ _ _ _ => rfl
  have HCP := Hid.mk (fun W (hW : Below w.heap.size w W) => copied_any vr rs cs.length W (hr.below hW) hl h1 (by omega) h60)
  have hpl := place_some hp
  have hql := place_some hq
  have HJN := Hid.mk (fun (v : Value) (us : List Value) W (hv : W.ownsRow (w.heap.size + 1) 62 1 v rs.length us) (hH : HeldRows W (w.heap.size + 1) us rs) (hs : w.heap.size + 1 ≤ W.heap.size) => grouped_ok v us rs (w.heap.size + 1) cs.length p q W hv hH hl h1 (by omega) h60 hpl hql hnum hsz hs hS)
  obtain ⟨b1, o1, vcp, rfl, hb1l, hat1⟩ := cols_at hc h1
  have HPL : Hid (∀ (v : Value) (nm : ByteArray) (k : Int) (W : World), Below w.heap.size w W → (v = .slice (some ⟨b1, o1, none⟩) cs.length vcp ∧ nm = x ∧ k = (p : Int) ∨ v = .slice (some ⟨b1, o1, none⟩) cs.length vcp ∧ nm = y ∧ k = (q : Int)) → Calls Tryz.prog 71 #[v, .string nm] W fun e w' => e = .returned (.int .i64 k) ∧ Below W.heap.size W w') := by
    refine Hid.mk ?_
    rintro v nm k W hW (⟨rfl, rfl, rfl⟩ | ⟨rfl, rfl, rfl⟩)
    · rw [← place_nat hp]
      exact place_in b1 o1 cs.length vcp cs nm W rfl (by omega) (by have := hW.size; omega) (hat1.below hW hb1l)
    · rw [← place_nat hq]
      exact place_in b1 o1 cs.length vcp cs nm W rfl (by omega) (by have := hW.size; omega) (hat1.below hW hb1l)
  have htk' : (0 : Int) < (tk : Int) := by omega
  clear hl hc hat1 hp hq hnum hsz
  obtain ⟨ra, rcp, rfl, -⟩ := hr
  have hJ0 : JobAt (w.alloc (.cells j.cells 28)) w.heap.size j := fun k v hk => by rw [World.cell?_alloc_at _ _ _ _ rfl]; exact hk
  have HJ0 := Hid.mk hJ0
  clear hJ0
  unfold Jb.cells at HJ0 ⊢
  rw [hcode, hj, hop] at HJ0 ⊢
  have HCD := Hid.mk (And.intro hcode (And.intro hj hop))
  clear hcode hj hop
  all_goals
    go_enter Tryz.func49, Tryz.ntmps49
    go_wp2_with fail
    go_cut [7, 8] (fun p v wx => ∃ (ab : Nat) (us : List Value), p = .pointer (some ⟨ab, 0, none⟩) ∧ wx.cell? ⟨ab, 0, none⟩ = some (.slice (some ⟨b1, o1, none⟩) cs.length vcp) ∧ ab < wx.heap.size ∧ wx.ownsRow (w.heap.size + 1) 62 1 v rs.length us ∧ HeldRows wx (w.heap.size + 1) us rs ∧ JobAt wx w.heap.size j ∧ Below w.heap.size w wx ∧ v.ownBlock ≠ some ab)
    case first =>
      go_region_held3 (fun w' => w'.cell? ⟨tb, to_, none⟩ = some (.slice (some ⟨b1, o1, none⟩) cs.length vcp) ∧ w'.cell? ⟨tb, to_ + 1, none⟩ = some (.slice ra rs.length rcp))
        (first | (go_keep; done) | exact ⟨(World.cell?_setCell_other _ _ _ _ (by intro e; simp at e; try omega)).trans k0, (World.cell?_setCell_other _ _ _ _ (by intro e; simp at e; try omega)).trans k1⟩)
        (first | (go_at_call 80; refine (HCP.out _ (by first | exact (below_box _ _).drew | exact (bel_box (below_box _ _) _).drew)).mono ?_; rintro e w1 ⟨v1, us, rfl, ho1, hh1, hb1⟩; have hb01 := bel_then (show Below w.heap.size w _ from (by first | exact (below_box _ _).drew | exact (bel_box (below_box _ _) _).drew)) hb1; have k0 := (hb01.cell (p := ⟨tb, to_, none⟩) htb).trans t0; have k1 := (hb01.cell (p := ⟨tb, to_ + 1, none⟩) htb).trans t1; have hz1 : tb < w1.heap.size := Nat.lt_of_lt_of_le htb hb01.size; (try (have kb := (hb1.cell (p := ⟨w.heap.size + 1, 0, none⟩) (by simp)).trans (show _ = some (Value.slice none 0 0) by simp); have kf := (hb1.frozen (p := ⟨w.heap.size + 1, 0, none⟩) (by simp)).trans (show _ = false by simp); have kz : w.heap.size + 1 < w1.heap.size := by (have := hb1.size; simp at this; omega)))))
      all_goals go_wp2_with fail
      all_goals go_meet
      · have hJ1 : JobAt w1 w.heap.size j := fun k v hk => (hb1.cell (p := ⟨w.heap.size, k, none⟩) (by simp)).trans (by simpa using HJ0.out k v hk)
        exact ⟨w1.heap.size, us, rfl, by simp, by simp, (own_mono (by simp) ho1).alloc _, (hh1.mono (by simp)).below (below_box _ _), hJ1.below (below_box _ _) (by have := hb1.size; simp at this; omega), bel_box hb01 _, own_not_at ho1⟩
      · have hJ1 : JobAt w1 w.heap.size j := fun k v hk => (hb1.cell (p := ⟨w.heap.size, k, none⟩) (by simp; omega)).trans (by simpa using HJ0.out k v hk)
        exact ⟨w.heap.size + 1, us, rfl, World.cell?_setCell_same _ _ _ kb, by simpa using kz, own_mono (by simp) (ownsRow_setCell_below ho1 (by simp) _), (HeldRows.set hh1 (by simp)).mono (by simp), fun k v hk => (World.cell?_setCell_other _ _ _ _ (by intro e; simp at e)).trans (hJ1 k v hk), hb01.setCell (by show w.heap.size ≤ w.heap.size + 1; omega) _, own_not_low ho1 (by simp)⟩
    case rest =>
      obtain ⟨ab, us, rfl, hab, habl, hv, hH, hJ, hbx, hnab⟩ := hcut
      have hwx := hbx.size
      have j1 : wc.cell? ⟨w.heap.size, 1, none⟩ = some (.int .i64 8) := by have := hJ 1 (.int .i64 j.code) rfl; rw [HCD.out.1] at this; exact this
      have j4 : wc.cell? ⟨w.heap.size, 4, none⟩ = some (.slice (some ⟨nb, no, none⟩) 2 cc) := by have := hJ 4 j.cols rfl; rw [HCD.out.2.1] at this; exact this
      have j5 : wc.cell? ⟨w.heap.size, 5, none⟩ = some (.string ⟨#[115, 117, 109]⟩) := by have := hJ 5 (.string j.op) rfl; rw [HCD.out.2.2] at this; exact this
      have hjl := hJ.lt
      have z4 := (hbx.cell (p := ⟨nb, no, none⟩) hnb).trans s0
      have z5 := (hbx.cell (p := ⟨nb, no + 1, none⟩) hnb).trans s1
      have KX : Hid (∀ V, Below wc.heap.size wc V → V.cell? ⟨ab, 0, none⟩ = some (.slice (some ⟨b1, o1, none⟩) cs.length vcp) ∧ V.cell? ⟨w.heap.size, 4, none⟩ = some (.slice (some ⟨nb, no, none⟩) 2 cc) ∧ V.cell? ⟨w.heap.size, 5, none⟩ = some (.string ⟨#[115, 117, 109]⟩) ∧ V.cell? ⟨nb, no, none⟩ = some (.string x) ∧ V.cell? ⟨nb, no + 1, none⟩ = some (.string y)) := Hid.mk (fun V hV => ⟨(hV.cell (p := ⟨ab, 0, none⟩) habl).trans hab, (hV.cell (p := ⟨w.heap.size, 4, none⟩) hjl).trans j4, (hV.cell (p := ⟨w.heap.size, 5, none⟩) hjl).trans j5, (hV.cell (p := ⟨nb, no, none⟩) (by show nb < _; omega)).trans z4, (hV.cell (p := ⟨nb, no + 1, none⟩) (by show nb < _; omega)).trans z5⟩)
      have HB := Hid.mk (And.intro hbx (And.intro hv hH))
      obtain ⟨xa, xc, rfl⟩ := own_slice hv
      have KY : Hid (∀ V V', Below wc.heap.size wc V → Below (w.heap.size + 1) V V' → Kept (.slice xa rs.length xc) V V' → V'.cell? ⟨ab, 0, none⟩ = some (.slice (some ⟨b1, o1, none⟩) cs.length vcp) ∧ V'.cell? ⟨w.heap.size, 4, none⟩ = some (.slice (some ⟨nb, no, none⟩) 2 cc) ∧ V'.cell? ⟨w.heap.size, 5, none⟩ = some (.string ⟨#[115, 117, 109]⟩) ∧ V'.cell? ⟨nb, no, none⟩ = some (.string x) ∧ V'.cell? ⟨nb, no + 1, none⟩ = some (.string y)) := Hid.mk (fun V V' hV hV' hk => by
        obtain ⟨y0, y1, y2, y3, y4⟩ := KX.out V hV
        have hs := hV.size
        exact ⟨(hk ⟨ab, 0, none⟩ (Nat.lt_of_lt_of_le habl hs) hnab).trans y0, (hV'.cell (p := ⟨w.heap.size, 4, none⟩) (by show w.heap.size < _; omega)).trans y1, (hV'.cell (p := ⟨w.heap.size, 5, none⟩) (by show w.heap.size < _; omega)).trans y2, (hV'.cell (p := ⟨nb, no, none⟩) (by show nb < _; omega)).trans y3, (hV'.cell (p := ⟨nb, no + 1, none⟩) (by show nb < _; omega)).trans y4⟩)
      clear hbx hv hH hJ HCP HJ0 t0 t1 s0 s1 hnab
      have HBD := Hid.mk (And.intro (show Below wc.heap.size wc wc.drew from (Below.refl _ _).drew) HB.out.1.drew)
      go_wp2_with fail
      go_region_held3 (fun V => V.cell? ⟨ab, 0, none⟩ = some (.slice (some ⟨b1, o1, none⟩) cs.length vcp) ∧ V.cell? ⟨w.heap.size, 4, none⟩ = some (.slice (some ⟨nb, no, none⟩) 2 cc) ∧ V.cell? ⟨w.heap.size, 5, none⟩ = some (.string ⟨#[115, 117, 109]⟩) ∧ V.cell? ⟨nb, no, none⟩ = some (.string x) ∧ V.cell? ⟨nb, no + 1, none⟩ = some (.string y))
        (first | (go_keep; done) | exact KY.out _ _ HW2.out HB3.out HKP.out | exact KX.out _ HW2.out | exact KX.out _ HW1.out)
        (first | (go_at_call 91; refine (HJN.out _ us _ (owns_below HB.out.2.1 HW2.out) (HB.out.2.2.below HW2.out) (by have := HW2.out.size; omega)).mono ?_; rintro e w3 ⟨hb3, hkp, v3, us3, rfl, ho3, hh3⟩; have HB3 := Hid.mk hb3; have HKP := Hid.mk hkp; have HO3 := Hid.mk (And.intro ho3 hh3); clear hb3 hkp ho3 hh3) | (go_at_call 71; refine (HPL.out _ _ _ _ HB1.out (by first | exact Or.inl ⟨rfl, rfl, rfl⟩ | exact Or.inr ⟨rfl, rfl, rfl⟩)).mono ?_; rintro e w2 ⟨rfl, hb2⟩; have HW2 := Hid.mk (bel_then HW1.out hb2); have HB2 := Hid.mk (bel_then HB1.out hb2)) | (go_at_call 71; refine (HPL.out _ _ _ _ HBD.out.2 (by first | exact Or.inl ⟨rfl, rfl, rfl⟩ | exact Or.inr ⟨rfl, rfl, rfl⟩)).mono ?_; rintro e w1 ⟨rfl, hb1⟩; have HW1 := Hid.mk (bel_then HBD.out.1 hb1); have HB1 := Hid.mk (bel_then HBD.out.2 hb1)))
      go_wp2
      go_ret3
      exact ⟨_, us3, rfl, own_mono (by omega) HO3.out.1, HO3.out.2.mono (by omega), HB2.out.trans (HB3.out.mono (Nat.le_succ _))⟩


set_option maxRecDepth 100000 in
set_option maxHeartbeats 3200000 in
/-- rowsOf, of a job that groups by sums. -/
theorem rowsOf_group_bad (tb to_ tk tcap nb no cc p q : Nat) (vc vr : Value) (cs : List Cl) (rs : List (List Vl)) (x y : ByteArray) (j : Jb) (w : World) (hcode : j.code = 8) (hop : j.op = ⟨#[115, 117, 109]⟩) (hj : j.cols = .slice (some ⟨nb, no, none⟩) 2 cc) (hnb : nb < w.heap.size) (s0 : w.cell? ⟨nb, no, none⟩ = some (.string x)) (s1 : w.cell? ⟨nb, no + 1, none⟩ = some (.string y)) (hp : placeN cs x.data.toList = some p) (hq : placeN cs y.data.toList = some q) (htk : 0 < tk) (htb : tb < w.heap.size) (t0 : w.cell? ⟨tb, to_, none⟩ = some vc) (t1 : w.cell? ⟨tb, to_ + 1, none⟩ = some vr)
    (hc : ColsIs w vc cs) (hr : RowsIs w vr rs) (h1 : 1 ≤ cs.length) (h6 : cs.length ≤ 40) (hl : ∀ r ∈ rs, r.length = cs.length) (h60 : rs.length ≤ 100) (hnum : ∀ r ∈ rs, inNum (vAt r q).2.1) (hsz : ∀ r ∈ rs, ∀ x ∈ r, x.2.2.size ≤ maxLen) (hS : ¬ ∀ g ∈ grpL p q (sortR [p] rs), inNum g.2) :
    Calls Tryz.prog 49 #[.agg j.cells, .slice (some ⟨tb, to_, none⟩) tk tcap] w fun e w' => e = .returned (.tuple #[.slice none 0 0, .slice none 0 0, errV 2]) ∧ Below w.heap.size w w' := by
  have hmf : ∀ (fn : Fn) (first cap : Array Value) (w : World), (Instr.makeFunc fn first cap).run Tryz.prog w = .ok (.func fn first cap) w := fun _ _ _ _ => rfl
  have HCP := Hid.mk (fun W (hW : Below w.heap.size w W) => copied_any vr rs cs.length W (hr.below hW) hl h1 (by omega) h60)
  have hpl := place_some hp
  have hql := place_some hq
  have HJN := Hid.mk (fun (v : Value) (us : List Value) W (hv : W.ownsRow (w.heap.size + 1) 62 1 v rs.length us) (hH : HeldRows W (w.heap.size + 1) us rs) (hs : w.heap.size + 1 ≤ W.heap.size) => grouped_bad v us rs (w.heap.size + 1) cs.length p q W hv hH hl h1 (by omega) h60 hpl hql hnum hsz hs hS)
  obtain ⟨b1, o1, vcp, rfl, hb1l, hat1⟩ := cols_at hc h1
  have HPL : Hid (∀ (v : Value) (nm : ByteArray) (k : Int) (W : World), Below w.heap.size w W → (v = .slice (some ⟨b1, o1, none⟩) cs.length vcp ∧ nm = x ∧ k = (p : Int) ∨ v = .slice (some ⟨b1, o1, none⟩) cs.length vcp ∧ nm = y ∧ k = (q : Int)) → Calls Tryz.prog 71 #[v, .string nm] W fun e w' => e = .returned (.int .i64 k) ∧ Below W.heap.size W w') := by
    refine Hid.mk ?_
    rintro v nm k W hW (⟨rfl, rfl, rfl⟩ | ⟨rfl, rfl, rfl⟩)
    · rw [← place_nat hp]
      exact place_in b1 o1 cs.length vcp cs nm W rfl (by omega) (by have := hW.size; omega) (hat1.below hW hb1l)
    · rw [← place_nat hq]
      exact place_in b1 o1 cs.length vcp cs nm W rfl (by omega) (by have := hW.size; omega) (hat1.below hW hb1l)
  have htk' : (0 : Int) < (tk : Int) := by omega
  clear hl hc hat1 hp hq hnum hsz
  obtain ⟨ra, rcp, rfl, -⟩ := hr
  have hJ0 : JobAt (w.alloc (.cells j.cells 28)) w.heap.size j := fun k v hk => by rw [World.cell?_alloc_at _ _ _ _ rfl]; exact hk
  have HJ0 := Hid.mk hJ0
  clear hJ0
  unfold Jb.cells at HJ0 ⊢
  rw [hcode, hj, hop] at HJ0 ⊢
  have HCD := Hid.mk (And.intro hcode (And.intro hj hop))
  clear hcode hj hop
  all_goals
    go_enter Tryz.func49, Tryz.ntmps49
    go_wp2_with fail
    go_cut [7, 8] (fun p v wx => ∃ (ab : Nat) (us : List Value), p = .pointer (some ⟨ab, 0, none⟩) ∧ wx.cell? ⟨ab, 0, none⟩ = some (.slice (some ⟨b1, o1, none⟩) cs.length vcp) ∧ ab < wx.heap.size ∧ wx.ownsRow (w.heap.size + 1) 62 1 v rs.length us ∧ HeldRows wx (w.heap.size + 1) us rs ∧ JobAt wx w.heap.size j ∧ Below w.heap.size w wx ∧ v.ownBlock ≠ some ab)
    case first =>
      go_region_held3 (fun w' => w'.cell? ⟨tb, to_, none⟩ = some (.slice (some ⟨b1, o1, none⟩) cs.length vcp) ∧ w'.cell? ⟨tb, to_ + 1, none⟩ = some (.slice ra rs.length rcp))
        (first | (go_keep; done) | exact ⟨(World.cell?_setCell_other _ _ _ _ (by intro e; simp at e; try omega)).trans k0, (World.cell?_setCell_other _ _ _ _ (by intro e; simp at e; try omega)).trans k1⟩)
        (first | (go_at_call 80; refine (HCP.out _ (by first | exact (below_box _ _).drew | exact (bel_box (below_box _ _) _).drew)).mono ?_; rintro e w1 ⟨v1, us, rfl, ho1, hh1, hb1⟩; have hb01 := bel_then (show Below w.heap.size w _ from (by first | exact (below_box _ _).drew | exact (bel_box (below_box _ _) _).drew)) hb1; have k0 := (hb01.cell (p := ⟨tb, to_, none⟩) htb).trans t0; have k1 := (hb01.cell (p := ⟨tb, to_ + 1, none⟩) htb).trans t1; have hz1 : tb < w1.heap.size := Nat.lt_of_lt_of_le htb hb01.size; (try (have kb := (hb1.cell (p := ⟨w.heap.size + 1, 0, none⟩) (by simp)).trans (show _ = some (Value.slice none 0 0) by simp); have kf := (hb1.frozen (p := ⟨w.heap.size + 1, 0, none⟩) (by simp)).trans (show _ = false by simp); have kz : w.heap.size + 1 < w1.heap.size := by (have := hb1.size; simp at this; omega)))))
      all_goals go_wp2_with fail
      all_goals go_meet
      · have hJ1 : JobAt w1 w.heap.size j := fun k v hk => (hb1.cell (p := ⟨w.heap.size, k, none⟩) (by simp)).trans (by simpa using HJ0.out k v hk)
        exact ⟨w1.heap.size, us, rfl, by simp, by simp, (own_mono (by simp) ho1).alloc _, (hh1.mono (by simp)).below (below_box _ _), hJ1.below (below_box _ _) (by have := hb1.size; simp at this; omega), bel_box hb01 _, own_not_at ho1⟩
      · have hJ1 : JobAt w1 w.heap.size j := fun k v hk => (hb1.cell (p := ⟨w.heap.size, k, none⟩) (by simp; omega)).trans (by simpa using HJ0.out k v hk)
        exact ⟨w.heap.size + 1, us, rfl, World.cell?_setCell_same _ _ _ kb, by simpa using kz, own_mono (by simp) (ownsRow_setCell_below ho1 (by simp) _), (HeldRows.set hh1 (by simp)).mono (by simp), fun k v hk => (World.cell?_setCell_other _ _ _ _ (by intro e; simp at e)).trans (hJ1 k v hk), hb01.setCell (by show w.heap.size ≤ w.heap.size + 1; omega) _, own_not_low ho1 (by simp)⟩
    case rest =>
      obtain ⟨ab, us, rfl, hab, habl, hv, hH, hJ, hbx, hnab⟩ := hcut
      have hwx := hbx.size
      have j1 : wc.cell? ⟨w.heap.size, 1, none⟩ = some (.int .i64 8) := by have := hJ 1 (.int .i64 j.code) rfl; rw [HCD.out.1] at this; exact this
      have j4 : wc.cell? ⟨w.heap.size, 4, none⟩ = some (.slice (some ⟨nb, no, none⟩) 2 cc) := by have := hJ 4 j.cols rfl; rw [HCD.out.2.1] at this; exact this
      have j5 : wc.cell? ⟨w.heap.size, 5, none⟩ = some (.string ⟨#[115, 117, 109]⟩) := by have := hJ 5 (.string j.op) rfl; rw [HCD.out.2.2] at this; exact this
      have hjl := hJ.lt
      have z4 := (hbx.cell (p := ⟨nb, no, none⟩) hnb).trans s0
      have z5 := (hbx.cell (p := ⟨nb, no + 1, none⟩) hnb).trans s1
      have KX : Hid (∀ V, Below wc.heap.size wc V → V.cell? ⟨ab, 0, none⟩ = some (.slice (some ⟨b1, o1, none⟩) cs.length vcp) ∧ V.cell? ⟨w.heap.size, 4, none⟩ = some (.slice (some ⟨nb, no, none⟩) 2 cc) ∧ V.cell? ⟨w.heap.size, 5, none⟩ = some (.string ⟨#[115, 117, 109]⟩) ∧ V.cell? ⟨nb, no, none⟩ = some (.string x) ∧ V.cell? ⟨nb, no + 1, none⟩ = some (.string y)) := Hid.mk (fun V hV => ⟨(hV.cell (p := ⟨ab, 0, none⟩) habl).trans hab, (hV.cell (p := ⟨w.heap.size, 4, none⟩) hjl).trans j4, (hV.cell (p := ⟨w.heap.size, 5, none⟩) hjl).trans j5, (hV.cell (p := ⟨nb, no, none⟩) (by show nb < _; omega)).trans z4, (hV.cell (p := ⟨nb, no + 1, none⟩) (by show nb < _; omega)).trans z5⟩)
      have HB := Hid.mk (And.intro hbx (And.intro hv hH))
      obtain ⟨xa, xc, rfl⟩ := own_slice hv
      have KY : Hid (∀ V V', Below wc.heap.size wc V → Below (w.heap.size + 1) V V' → Kept (.slice xa rs.length xc) V V' → V'.cell? ⟨ab, 0, none⟩ = some (.slice (some ⟨b1, o1, none⟩) cs.length vcp) ∧ V'.cell? ⟨w.heap.size, 4, none⟩ = some (.slice (some ⟨nb, no, none⟩) 2 cc) ∧ V'.cell? ⟨w.heap.size, 5, none⟩ = some (.string ⟨#[115, 117, 109]⟩) ∧ V'.cell? ⟨nb, no, none⟩ = some (.string x) ∧ V'.cell? ⟨nb, no + 1, none⟩ = some (.string y)) := Hid.mk (fun V V' hV hV' hk => by
        obtain ⟨y0, y1, y2, y3, y4⟩ := KX.out V hV
        have hs := hV.size
        exact ⟨(hk ⟨ab, 0, none⟩ (Nat.lt_of_lt_of_le habl hs) hnab).trans y0, (hV'.cell (p := ⟨w.heap.size, 4, none⟩) (by show w.heap.size < _; omega)).trans y1, (hV'.cell (p := ⟨w.heap.size, 5, none⟩) (by show w.heap.size < _; omega)).trans y2, (hV'.cell (p := ⟨nb, no, none⟩) (by show nb < _; omega)).trans y3, (hV'.cell (p := ⟨nb, no + 1, none⟩) (by show nb < _; omega)).trans y4⟩)
      clear hbx hv hH hJ HCP HJ0 t0 t1 s0 s1 hnab
      have HBD := Hid.mk (And.intro (show Below wc.heap.size wc wc.drew from (Below.refl _ _).drew) HB.out.1.drew)
      go_wp2_with fail
      go_region_held3 (fun V => V.cell? ⟨ab, 0, none⟩ = some (.slice (some ⟨b1, o1, none⟩) cs.length vcp) ∧ V.cell? ⟨w.heap.size, 4, none⟩ = some (.slice (some ⟨nb, no, none⟩) 2 cc) ∧ V.cell? ⟨w.heap.size, 5, none⟩ = some (.string ⟨#[115, 117, 109]⟩) ∧ V.cell? ⟨nb, no, none⟩ = some (.string x) ∧ V.cell? ⟨nb, no + 1, none⟩ = some (.string y))
        (first | (go_keep; done) | exact KY.out _ _ HW2.out HB3.out HKP.out | exact KX.out _ HW2.out | exact KX.out _ HW1.out)
        (first | (go_at_call 91; refine (HJN.out _ us _ (owns_below HB.out.2.1 HW2.out) (HB.out.2.2.below HW2.out) (by have := HW2.out.size; omega)).mono ?_; rintro e w3 ⟨hb3, hkp, rfl⟩; have HB3 := Hid.mk hb3; have HKP := Hid.mk hkp; clear hb3 hkp) | (go_at_call 71; refine (HPL.out _ _ _ _ HB1.out (by first | exact Or.inl ⟨rfl, rfl, rfl⟩ | exact Or.inr ⟨rfl, rfl, rfl⟩)).mono ?_; rintro e w2 ⟨rfl, hb2⟩; have HW2 := Hid.mk (bel_then HW1.out hb2); have HB2 := Hid.mk (bel_then HB1.out hb2)) | (go_at_call 71; refine (HPL.out _ _ _ _ HBD.out.2 (by first | exact Or.inl ⟨rfl, rfl, rfl⟩ | exact Or.inr ⟨rfl, rfl, rfl⟩)).mono ?_; rintro e w1 ⟨rfl, hb1⟩; have HW1 := Hid.mk (bel_then HBD.out.1 hb1); have HB1 := Hid.mk (bel_then HBD.out.2 hb1)))
      go_wp2
      go_ret3
      exact ⟨rfl, HB2.out.trans (HB3.out.mono (Nat.le_succ _))⟩
end Go.Proofs.YtjceppinfjbegaaGreatDoor

