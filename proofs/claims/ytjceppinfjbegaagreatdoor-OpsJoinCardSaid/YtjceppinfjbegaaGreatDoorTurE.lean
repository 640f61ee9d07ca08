import Derived.Test.YtjceppinfjbegaaGreatDoorTurA
set_option linter.unusedSimpArgs false
set_option linter.unusedVariables false
namespace Go.Proofs.YtjceppinfjbegaaGreatDoor
open Go.RowKit

set_option maxRecDepth 100000 in
set_option maxHeartbeats 1600000 in
/-- rowsOf, of a job that picks columns. -/
theorem rowsOf_proj (tb to_ tk tcap : Nat) (vc vr : Value) (cs : List Cl) (rs : List (List Vl)) (j : Jb) (w : World) (ss : List ByteArray) (hcode : j.code = 3) (hs : StrsC w j.cols ss) (he : listErr cs ss = 0) (htk : 0 < tk) (htb : tb < w.heap.size) (t0 : w.cell? ⟨tb, to_, none⟩ = some vc) (t1 : w.cell? ⟨tb, to_ + 1, none⟩ = some vr)
    (hc : ColsIs w vc cs) (hr : RowsIs w vr rs) (h1 : 1 ≤ cs.length) (h6 : cs.length ≤ 100) (hl : ∀ r ∈ rs, r.length = cs.length) (h60 : rs.length ≤ 100) :
    Calls Tryz.prog 49 #[.agg j.cells, .slice (some ⟨tb, to_, none⟩) tk tcap] w fun e w' => ∃ v1 us1, e = .returned (.tuple #[v1, .slice none 0 0, .nilIface]) ∧ w'.ownsRow w.heap.size 62 1 v1 rs.length us1 ∧ HeldRows w' w.heap.size us1 (rs.map (pickV (placesN cs ss))) ∧ Below w.heap.size w w' := by
  have hmf : ∀ (fn : Fn) (first cap : Array Value) (w : World), (Instr.makeFunc fn first cap).run Tryz.prog w = .ok (.func fn first cap) w := fun _ _ _ _ => rfl
  have HCP := Hid.mk (fun W (hW : Below w.heap.size w W) => copied_any vr rs cs.length W (hr.below hW) hl h1 h6 h60)
  obtain ⟨l0, l6, hall⟩ := listErr_0 he
  obtain ⟨ca, cc, hj, hcap, hml, hat⟩ := hs
  rcases hat with h | ⟨nb, no, rfl, hnl, hat⟩
  · rw [h] at l0; simp at l0
  obtain ⟨cb, co, vcp0, hve, hcbl, hcat⟩ := cols_at hc h1
  have hkl : (placesN cs ss).length = ss.length := by simp [placesN]
  have hPL := fun W (h1 : Below w.heap.size w W) => places_in nb no cc cb co cs.length vcp0 ss.length ss (placesN cs ss) cs W rfl (by omega) (by have := h1.size; omega) (hat.below h1 hnl) rfl h6 (by have := h1.size; omega) (hcat.below h1 hcbl) hkl (places_at hall)
  have hPJ := fun (v : Value) W g gc (hv : RowsIs W v rs) (hg : g < W.heap.size) (hi : IntsAt W g 0 (placesN cs ss)) => projected_any v rs g 0 gc (placesN cs ss) W hv (fun r hr' => ⟨fun k hk => by have := places_lt hall k hk; have := hl r hr'; omega, by have := hl r hr'; omega⟩) (by omega) hg hi (by omega) h60
  have hk0 : 0 < (placesN cs ss).length := by omega
  generalize hks : placesN cs ss = ks at *
  have HPL := Hid.mk hPL
  have HPJ := Hid.mk hPJ
  have HK := Hid.mk hk0
  clear hPL hPJ hkl hall l0 l6 he hks hk0 hat hcap hml
  have htk' : (0 : Int) < (tk : Int) := by omega
  clear hl
  subst hve
  clear hc hcat
  obtain ⟨ra, rcp, rfl, -⟩ := hr
  have hJ0 : JobAt (w.alloc (.cells j.cells 28)) w.heap.size j := fun k v hk => by rw [World.cell?_alloc_at _ _ _ _ rfl]; exact hk
  have HJ0 := Hid.mk hJ0
  clear hJ0
  unfold Jb.cells at HJ0 ⊢
  rw [hcode, hj] at HJ0 ⊢
  have HCD := Hid.mk (And.intro hcode hj)
  clear hcode hj
  all_goals
    go_enter Tryz.func49, Tryz.ntmps49
    go_wp2_with fail
    go_cut [7, 8] (fun p v wx => ∃ (ab : Nat) (us : List Value), p = .pointer (some ⟨ab, 0, none⟩) ∧ wx.cell? ⟨ab, 0, none⟩ = some (.slice (some ⟨cb, co, none⟩) cs.length vcp0) ∧ ab < wx.heap.size ∧ wx.ownsRow (w.heap.size + 1) 62 1 v rs.length us ∧ HeldRows wx (w.heap.size + 1) us rs ∧ JobAt wx w.heap.size j ∧ Below w.heap.size w wx)
    case first =>
      go_region_held3 (fun w' => w'.cell? ⟨tb, to_, none⟩ = some (.slice (some ⟨cb, co, none⟩) cs.length vcp0) ∧ w'.cell? ⟨tb, to_ + 1, none⟩ = some (.slice ra rs.length rcp))
        (first | (go_keep; done) | exact ⟨(World.cell?_setCell_other _ _ _ _ (by intro e; simp at e; try omega)).trans k0, (World.cell?_setCell_other _ _ _ _ (by intro e; simp at e; try omega)).trans k1⟩)
        (first | (go_at_call 80; refine (HCP.out _ (by first | exact (below_box _ _).drew | exact (bel_box (below_box _ _) _).drew)).mono ?_; rintro e w1 ⟨v1, us, rfl, ho1, hh1, hb1⟩; have hb01 := bel_then (show Below w.heap.size w _ from (by first | exact (below_box _ _).drew | exact (bel_box (below_box _ _) _).drew)) hb1; have k0 := (hb01.cell (p := ⟨tb, to_, none⟩) htb).trans t0; have k1 := (hb01.cell (p := ⟨tb, to_ + 1, none⟩) htb).trans t1; have hz1 : tb < w1.heap.size := Nat.lt_of_lt_of_le htb hb01.size; (try (have kb := (hb1.cell (p := ⟨w.heap.size + 1, 0, none⟩) (by simp)).trans (show _ = some (Value.slice none 0 0) by simp); have kf := (hb1.frozen (p := ⟨w.heap.size + 1, 0, none⟩) (by simp)).trans (show _ = false by simp); have kz : w.heap.size + 1 < w1.heap.size := by (have := hb1.size; simp at this; omega)))))
      all_goals go_wp2_with fail
      all_goals go_meet
      · have hJ1 : JobAt w1 w.heap.size j := fun k v hk => (hb1.cell (p := ⟨w.heap.size, k, none⟩) (by simp)).trans (by simpa using HJ0.out k v hk)
        exact ⟨w1.heap.size, us, rfl, by simp, by simp, (own_mono (by simp) ho1).alloc _, (hh1.mono (by simp)).below (below_box _ _), hJ1.below (below_box _ _) (by have := hb1.size; simp at this; omega), bel_box hb01 _⟩
      · have hJ1 : JobAt w1 w.heap.size j := fun k v hk => (hb1.cell (p := ⟨w.heap.size, k, none⟩) (by simp; omega)).trans (by simpa using HJ0.out k v hk)
        exact ⟨w.heap.size + 1, us, rfl, World.cell?_setCell_same _ _ _ kb, by simpa using kz, own_mono (by simp) (ownsRow_setCell_below ho1 (by simp) _), (HeldRows.set hh1 (by simp)).mono (by simp), fun k v hk => (World.cell?_setCell_other _ _ _ _ (by intro e; simp at e)).trans (hJ1 k v hk), hb01.setCell (by show w.heap.size ≤ w.heap.size + 1; omega) _⟩
    case rest =>
      obtain ⟨ab, us, rfl, hab, habl, hv, hH, hJ, hbx⟩ := hcut
      have hwx := hbx.size
      have j1 : wc.cell? ⟨w.heap.size, 1, none⟩ = some (.int .i64 3) := by have := hJ 1 (.int .i64 j.code) rfl; rw [HCD.out.1] at this; exact this
      have j4 : wc.cell? ⟨w.heap.size, 4, none⟩ = some (.slice (some ⟨nb, no, none⟩) ss.length cc) := by have := hJ 4 j.cols rfl; rw [HCD.out.2] at this; exact this
      have hjl := hJ.lt
      have hrI := rows_of_held hv hH
      have HB := Hid.mk (And.intro hbx hrI)
      obtain ⟨xa, xc, rfl⟩ := own_slice hv
      clear hbx hv hH hJ hrI HCP HJ0 t0 t1
      go_wp2_with (first | (go_at_call 69; refine (HPL.out _ HB.out.1).mono ?_; rintro e w1 ⟨v1, rfl, ho1, hb1⟩; obtain ⟨g, gc, rfl, hgB, hgl, hgi⟩ := ints_of ho1 HK.out) | (go_at_call 86; refine (HPJ.out _ _ _ _ (HB.out.2.below hb1) hgl hgi).mono ?_; rintro e w2 ⟨v2, us2, rfl, ho2, hh2, hb2⟩))
      go_ret3
      have hs1 := hb1.size
      exact ⟨_, us2, rfl, own_mono (by omega) ho2, hh2.mono (by omega), bel_then (bel_then HB.out.1 hb1) hb2⟩

/-- What is told of one table by a job that picks columns (0: nothing is wrong). -/
def projNo (t : Tb) (ss : List ByteArray) : Int := if rightB t.1 t.2 = false then 1 else listErr t.1 ss
theorem projNo_0 {t : Tb} {ss : List ByteArray} (h : projNo t ss = 0) : rightB t.1 t.2 = true ∧ listErr t.1 ss = 0 := by
  unfold projNo at h
  split at h
  · cases h
  · rename_i h1; exact ⟨by simpa using h1, h⟩
theorem pickC_size {ks : List Nat} {cs : List Cl} (h : ∀ x ∈ cs, x.1.size ≤ maxLen) : ∀ x ∈ pickC ks cs, x.1.size ≤ maxLen := by
  intro x hx
  obtain ⟨k, -, rfl⟩ := List.mem_map.1 hx
  by_cases hk : k < cs.length
  · simp only [List.getElem?_eq_getElem hk, Option.getD_some]
    exact h _ (List.getElem_mem hk)
  · rw [List.getElem?_eq_none (by omega)]
    exact Nat.zero_le _

theorem do_proj_bad (tb to_ tcap : Nat) (t : Tb) (j : Jb) (oa : Option Addr) (oc : Nat) (ss : List ByteArray) (w : World) (hcode : j.code = 3) (hout : j.outs = .slice oa 1 oc) (hs : StrsC w j.cols ss) (ht : TabsAt w tb to_ [t]) (htb : tb < w.heap.size) (hno : projNo t ss ≠ 0) :
    Calls Tryz.prog 15 #[.agg j.cells, .slice (some ⟨tb, to_, none⟩) 1 tcap] w fun e w' => e = .returned (.tuple #[.slice none 0 0, errV (projNo t ss)]) ∧ Below w.heap.size w w' := by
  have hmk : sizesI j.code = (((1 : Nat) : Int), ((1 : Nat) : Int)) := by rw [hcode]; rfl
  cases hr : rightB t.1 t.2
  · have : projNo t ss = 1 := by unfold projNo; rw [if_pos hr]
    rw [this]
    exact do_arg tb to_ tcap [t] j w ht htb (by simp) ⟨t, by simp, hr⟩
  · obtain ⟨hr1, hr2, hr3, hr4⟩ := right_len hr
    have hn : projNo t ss = listErr t.1 ss := by unfold projNo; rw [if_neg (by simp [hr])]
    rw [hn] at hno ⊢
    refine do_bad tb to_ tcap [t] j w ht htb (by simp) (by simp) (by intro x hx'; simp at hx'; rw [hx']; exact hr) _ hno ?_
    intro W B g cap us hW ho hh
    obtain ⟨b, o, c, hc0, hgl, hbl, hat⟩ := head_of ho hh hr1
    exact cols_bad _ oa cap oc j 1 1 _ W hout hmk (by decide) hno (fun W' hW' => wrong_proj g 0 1 cap b o t.1.length c t.1 ss j W' hcode (by decide) (Nat.lt_of_lt_of_le hgl hW'.size) ((hW'.cell (p := ⟨g, 0, none⟩) hgl).trans hc0) ((hs.below hW).below hW') rfl (by omega) (Nat.lt_of_lt_of_le hbl hW'.size) (hat.below hW' hbl))

theorem do_proj_ok (tb to_ tcap : Nat) (t : Tb) (j : Jb) (oa : Option Addr) (oc : Nat) (ss : List ByteArray) (w : World) (hcode : j.code = 3) (hout : j.outs = .slice oa 1 oc) (hs : StrsC w j.cols ss) (ht : TabsAt w tb to_ [t]) (htb : tb < w.heap.size) (hno : projNo t ss = 0) :
    Calls Tryz.prog 15 #[.agg j.cells, .slice (some ⟨tb, to_, none⟩) 1 tcap] w fun e w' => ∃ g c, e = .returned (.tuple #[.slice (some ⟨g, 0, none⟩) 1 c, .nilIface]) ∧ w.heap.size ≤ g ∧ g < w'.heap.size ∧ TabsNew w' w.heap.size g [(pickC (placesN t.1 ss) t.1, t.2.map (pickV (placesN t.1 ss)))] ∧ Below w.heap.size w w' := by
  have hmk : sizesI j.code = (((1 : Nat) : Int), ((1 : Nat) : Int)) := by rw [hcode]; rfl
  obtain ⟨hr, he⟩ := projNo_0 hno
  obtain ⟨hr1, hr2, hr3, hr4⟩ := right_len hr
  obtain ⟨vc, vr, c0, c1, hc, hrs⟩ := ht 0 (by simp)
  refine do_ok1 tb to_ tcap [t] j w ht htb (by simp) (by simp) (by intro x hx'; simp at hx'; rw [hx']; exact hr) (pickC (placesN t.1 ss) t.1) (t.2.map (pickV (placesN t.1 ss))) [] (by simpa using hr3) (pickC_size (cols_size hc)) ?_ (fun W hW => ?_)
  · intro W B g cap us hW ho hh
    obtain ⟨b, o, c, hc0, hgl, hbl, hat⟩ := head_of ho hh hr1
    refine cols_ok _ oa cap oc j 1 1 (pickC (placesN t.1 ss) t.1) W hout hmk (by decide) (by decide) (fun W' hW' => ?_) (fun W' hW' => columns_proj g 0 1 cap b o t.1.length c t.1 ss j W' hcode (by decide) (Nat.lt_of_lt_of_le hgl hW'.size) ((hW'.cell (p := ⟨g, 0, none⟩) hgl).trans hc0) ((hs.below hW).below hW') he rfl (by omega) (Nat.lt_of_lt_of_le hbl hW'.size) (hat.below hW' hbl))
    have := wrong_proj g 0 1 cap b o t.1.length c t.1 ss j W' hcode (by decide) (Nat.lt_of_lt_of_le hgl hW'.size) ((hW'.cell (p := ⟨g, 0, none⟩) hgl).trans hc0) ((hs.below hW).below hW') rfl (by omega) (Nat.lt_of_lt_of_le hbl hW'.size) (hat.below hW' hbl)
    rw [he] at this
    exact this
  · refine (rowsOf_proj tb to_ 1 tcap vc vr t.1 t.2 j W ss hcode (hs.below hW) he (by decide) (Nat.lt_of_lt_of_le htb hW.size) ((hW.cell (p := ⟨tb, to_, none⟩) htb).trans (by simpa using c0)) ((hW.cell (p := ⟨tb, to_ + 1, none⟩) htb).trans (by simpa using c1)) (hc.below hW) (hrs.below hW) hr1 (by omega) hr4 (by omega)).mono ?_
    rintro e w' ⟨v1, us1, h1, h2, h3, hb⟩
    exact ⟨v1, .slice none 0 0, us1, [], h1, by simpa using h2, h3, World.ownsRow_nil _ _ _ _, HeldRows.nil _ _, hb⟩

end Go.Proofs.YtjceppinfjbegaaGreatDoor

