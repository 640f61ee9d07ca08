import Derived.Test.YtjceppinfjbegaaGreatDoorTurG
set_option linter.unusedSimpArgs false
set_option linter.unusedVariables false
namespace Go.Proofs.YtjceppinfjbegaaGreatDoor
open Go.RowKit

theorem HeldRows.append {w : World} {B : Nat} {us us2 : List Value} {rs rs2 : List (List Vl)} (h : HeldRows w B us rs) (h2 : HeldRows w B us2 rs2) : HeldRows w B (us ++ us2) (rs ++ rs2) := by
  refine ⟨by simp [h.1, h2.1], fun j hj hj' => ?_⟩
  by_cases hlt : j < us.length
  · have hlt' : j < rs.length := by rw [← h.1]; exact hlt
    simp only [List.getElem_append_left hlt, List.getElem_append_left hlt']
    exact h.2 j hlt hlt'
  · have hge : us.length ≤ j := by omega
    have hge' : rs.length ≤ j := by rw [← h.1]; exact hge
    simp only [List.getElem_append_right hge, List.getElem_append_right hge', h.1]
    have := h2.2 (j - rs.length) (by rw [List.length_append] at hj; rw [← h.1]; omega) (by rw [List.length_append] at hj'; omega)
    exact this
theorem held_one {w w1 : World} {B B' : Nat} {us us2 : List Value} {rs rs2 : List (List Vl)} (h : HeldRows w B us rs) (h2 : HeldRows w1 B' us2 rs2) : ∀ u ∈ us ++ us2, u.oneCell' = true := by
  intro u hu
  rcases List.mem_append.1 hu with hu | hu
  · obtain ⟨j, hj, rfl⟩ := List.mem_iff_getElem.1 hu
    obtain ⟨a, c, e⟩ := own_slice (h.2 j hj (by rw [← h.1]; exact hj)).1
    rw [e]; rfl
  · obtain ⟨j, hj, rfl⟩ := List.mem_iff_getElem.1 hu
    obtain ⟨a, c, e⟩ := own_slice (h2.2 j hj (by rw [← h2.1]; exact hj)).1
    rw [e]; rfl

set_option maxRecDepth 100000 in
set_option maxHeartbeats 1600000 in
/-- rowsOf, of a job that sets one table behind the other. -/
theorem rowsOf_union (tb tcap : Nat) (vc vr vr2 : Value) (cs : List Cl) (rs rs2 : List (List Vl)) (j : Jb) (w : World) (hcode : j.code = 5) (htb : tb < w.heap.size) (t0 : w.cell? ⟨tb, 0, none⟩ = some vc) (t1 : w.cell? ⟨tb, 1, none⟩ = some vr) (t3 : w.cell? ⟨tb, 3, none⟩ = some vr2)
    (hc : ColsIs w vc cs) (hr : RowsIs w vr rs) (hr2 : RowsIs w vr2 rs2) (hl2 : ∀ r ∈ rs2, r.length = cs.length) (h602 : rs2.length ≤ 100) (h1 : 1 ≤ cs.length) (h6 : cs.length ≤ 100) (hl : ∀ r ∈ rs, r.length = cs.length) (h60 : rs.length ≤ 100) :
    Calls Tryz.prog 49 #[.agg j.cells, .slice (some ⟨tb, 0, none⟩) 2 tcap] w fun e w' => ∃ v1 us1, e = .returned (.tuple #[v1, .slice none 0 0, .nilIface]) ∧ w'.ownsRow w.heap.size 62 1 v1 (rs ++ rs2).length us1 ∧ HeldRows w' w.heap.size us1 (rs ++ rs2) ∧ Below w.heap.size w w' := by
  have hmf : ∀ (fn : Fn) (first cap : Array Value) (w : World), (Instr.makeFunc fn first cap).run Tryz.prog w = .ok (.func fn first cap) w := fun _ _ _ _ => rfl
  have HCP := Hid.mk (fun W (hW : Below w.heap.size w W) => copied_any vr rs cs.length W (hr.below hW) hl h1 h6 h60)
  have HC2 := Hid.mk (fun W (hW : Below w.heap.size w W) => copied_any vr2 rs2 cs.length W (hr2.below hW) hl2 h1 h6 h602)
  clear hl hl2
  obtain ⟨va, vcp, rfl, -⟩ := hc
  obtain ⟨ra, rcp, rfl, -⟩ := hr
  obtain ⟨ra2, rcp2, rfl, -⟩ := hr2
  have hJ0 : JobAt (w.alloc (.cells j.cells 28)) w.heap.size j := fun k v hk => by rw [World.cell?_alloc_at _ _ _ _ rfl]; exact hk
  have HJ0 := Hid.mk hJ0
  clear hJ0
  unfold Jb.cells at HJ0 ⊢
  rw [hcode] at HJ0 ⊢
  have HCD := Hid.mk hcode
  clear hcode
  all_goals
    go_enter Tryz.func49, Tryz.ntmps49
    go_wp2_with fail
    go_cut [7, 8] (fun p v wx => ∃ (ab : Nat) (us : List Value), p = .pointer (some ⟨ab, 0, none⟩) ∧ wx.cell? ⟨ab, 0, none⟩ = some (.slice va cs.length vcp) ∧ ab < wx.heap.size ∧ wx.ownsRow (w.heap.size + 1) 62 1 v rs.length us ∧ HeldRows wx (w.heap.size + 1) us rs ∧ JobAt wx w.heap.size j ∧ Below w.heap.size w wx)
    case first =>
      go_region_held3 (fun w' => w'.cell? ⟨tb, 0, none⟩ = some (.slice va cs.length vcp) ∧ w'.cell? ⟨tb, 1, none⟩ = some (.slice ra rs.length rcp))
        (first | (go_keep; done) | exact ⟨(World.cell?_setCell_other _ _ _ _ (by intro e; simp at e; try omega)).trans k0, (World.cell?_setCell_other _ _ _ _ (by intro e; simp at e; try omega)).trans k1⟩)
        (first | (go_at_call 80; refine (HCP.out _ (by first | exact (below_box _ _).drew | exact (bel_box (below_box _ _) _).drew)).mono ?_; rintro e w1 ⟨v1, us, rfl, ho1, hh1, hb1⟩; have hb01 := bel_then (show Below w.heap.size w _ from (by first | exact (below_box _ _).drew | exact (bel_box (below_box _ _) _).drew)) hb1; have k0 := (hb01.cell (p := ⟨tb, 0, none⟩) htb).trans t0; have k1 := (hb01.cell (p := ⟨tb, 1, none⟩) htb).trans t1; have hz1 : tb < w1.heap.size := Nat.lt_of_lt_of_le htb hb01.size; (try (have kb := (hb1.cell (p := ⟨w.heap.size + 1, 0, none⟩) (by simp)).trans (show _ = some (Value.slice none 0 0) by simp); have kf := (hb1.frozen (p := ⟨w.heap.size + 1, 0, none⟩) (by simp)).trans (show _ = false by simp); have kz : w.heap.size + 1 < w1.heap.size := by (have := hb1.size; simp at this; omega)))))
      all_goals go_wp2_with fail
      all_goals go_meet
      · have hJ1 : JobAt w1 w.heap.size j := fun k v hk => (hb1.cell (p := ⟨w.heap.size, k, none⟩) (by simp)).trans (by simpa using HJ0.out k v hk)
        exact ⟨w1.heap.size, us, rfl, by simp, by simp, (own_mono (by simp) ho1).alloc _, (hh1.mono (by simp)).below (below_box _ _), hJ1.below (below_box _ _) (by have := hb1.size; simp at this; omega), bel_box hb01 _⟩
      · have hJ1 : JobAt w1 w.heap.size j := fun k v hk => (hb1.cell (p := ⟨w.heap.size, k, none⟩) (by simp; omega)).trans (by simpa using HJ0.out k v hk)
        exact ⟨w.heap.size + 1, us, rfl, World.cell?_setCell_same _ _ _ kb, by simpa using kz, own_mono (by simp) (ownsRow_setCell_below ho1 (by simp) _), (HeldRows.set hh1 (by simp)).mono (by simp), fun k v hk => (World.cell?_setCell_other _ _ _ _ (by intro e; simp at e)).trans (hJ1 k v hk), hb01.setCell (by show w.heap.size ≤ w.heap.size + 1; omega) _⟩
    case rest =>
      obtain ⟨ab, us, rfl, hab, habl, hv, hH, hJ, hbx⟩ := hcut
      have hwx := hbx.size
      have j1 : wc.cell? ⟨w.heap.size, 1, none⟩ = some (.int .i64 5) := by have := hJ 1 (.int .i64 j.code) rfl; rw [HCD.out] at this; exact this
      have m3 := (hbx.cell (p := ⟨tb, 3, none⟩) htb).trans t3
      have hjl := hJ.lt
      have HB := Hid.mk (And.intro hbx (And.intro hv hH))
      obtain ⟨xa, xc, rfl⟩ := own_slice hv
      clear hbx hv hH hJ HCP HJ0 t0 t1 t3
      go_wp2_with (first | (go_at_call 80; refine (HC2.out _ HB.out.1).mono ?_; rintro e w1 ⟨v1, us2, rfl, ho1, hh1, hb1⟩; obtain ⟨v1a, v1c, rfl⟩ := own_slice ho1) | (go_at_call 88; refine (concat_two w1.heap.size rs.length rs2.length _ _ us us2 _ _ _ (by simp) (by simp) (by simp) ((owns_below HB.out.2.1 hb1).alloc _) (ho1.alloc _) h60 h602 (held_one HB.out.2.2 hh1)).mono ?_; rintro e w2 ⟨v2, rfl, ho2, hb2⟩))
      go_ret3
      have hs1 := hb1.size
      refine ⟨_, us ++ us2, rfl, ?_, ?_, bel_then (bel_box (bel_then HB.out.1 hb1) _) hb2⟩
      · rw [List.length_append]
        exact own_mono (by simp; omega) ho2
      · have g1 := ((HB.out.2.2.below hb1).below (below_box _ _)).below hb2
        have g2 := (hh1.below (below_box _ _)).below hb2
        exact (g1.mono (by omega)).append (g2.mono (by omega))

/-- What is told of two tables, one set behind the other (0: nothing is wrong). -/
noncomputable def uniNo (t u : Tb) : Int := by classical exact if rightB t.1 t.2 = false ∨ rightB u.1 u.2 = false then 1 else if t.1 ≠ u.1 then 13 else if 60 < t.2.length + u.2.length then 12 else 0
theorem uniNo_0 {t u : Tb} (h : uniNo t u = 0) : rightB t.1 t.2 = true ∧ rightB u.1 u.2 = true ∧ t.1 = u.1 ∧ t.2.length + u.2.length ≤ 60 := by
  unfold uniNo at h
  split at h
  · cases h
  · rename_i h1
    split at h
    · cases h
    · rename_i h2
      split at h
      · cases h
      · rename_i h3
        refine ⟨?_, ?_, by simpa using h2, by omega⟩
        · cases g : rightB t.1 t.2 with
          | true => rfl
          | false => exact absurd (Or.inl g) h1
        · cases g : rightB u.1 u.2 with
          | true => rfl
          | false => exact absurd (Or.inr g) h1

theorem heads_of {W : World} {B g cap : Nat} {us : List Value} {cs cs' : List Cl} (ho : W.ownsRow B 33 1 (.slice (some ⟨g, 0, none⟩) 2 cap) 2 us) (hh : HeadsIs W us [cs, cs']) (h1 : 1 ≤ cs.length) (h1' : 1 ≤ cs'.length) :
    ∃ b o c b' o' c', W.cell? ⟨g, 0, none⟩ = some (.slice (some ⟨b, o, none⟩) cs.length c) ∧ W.cell? ⟨g, 0 + 1, none⟩ = some (.slice (some ⟨b', o', none⟩) cs'.length c') ∧ g < W.heap.size ∧ b < W.heap.size ∧ b' < W.heap.size ∧ ColsAt W b o cs ∧ ColsAt W b' o' cs' := by
  obtain ⟨u, hu, hc⟩ := hh.2 0 (by simp)
  obtain ⟨u', hu', hc'⟩ := hh.2 1 (by simp)
  obtain ⟨b, o, c, rfl, hbl, hat⟩ := cols_at hc h1
  obtain ⟨b', o', c', rfl, hbl', hat'⟩ := cols_at hc' h1'
  exact ⟨b, o, c, b', o', c', list_cell ho 0 _ (by decide) hu, list_cell ho 1 _ (by decide) hu', (ho.lt g rfl).2, hbl, hbl', hat, hat'⟩

theorem two_right {t u : Tb} (h : rightB t.1 t.2 = true) (h' : rightB u.1 u.2 = true) : ∀ x ∈ [t, u], rightB x.1 x.2 = true := by
  intro x hx
  simp at hx
  rcases hx with rfl | rfl
  · exact h
  · exact h'

theorem uni_cols {t u : Tb} {j : Jb} {w : World} (oa : Option Addr) (oc : Nat) (hcode : j.code = 5) (hout : j.outs = .slice oa 1 oc) (hr : rightB t.1 t.2 = true) (hr' : rightB u.1 u.2 = true) (he : t.1 = u.1) :
    ∀ W B g cap us, Below w.heap.size w W → W.ownsRow B 33 1 (.slice (some ⟨g, 0, none⟩) [t, u].length cap) [t, u].length us → HeadsIs W us ([t, u].map (·.1)) → Calls Tryz.prog 11 #[.agg j.cells, .slice (some ⟨g, 0, none⟩) [t, u].length cap] W fun e w' => ∃ v us, e = .returned (.tuple #[v, .nilIface]) ∧ w'.ownsRow W.heap.size 33 1 v 1 us ∧ HeldCols w' W.heap.size us t.1 ∧ Below W.heap.size W w' := by
  obtain ⟨hr1, hr2, hr3, hr4⟩ := right_len hr
  obtain ⟨hq1, hq2, hq3, hq4⟩ := right_len hr'
  have hmk : sizesI j.code = (((2 : Nat) : Int), ((1 : Nat) : Int)) := by rw [hcode]; rfl
  intro W B g cap us hW ho hh
  obtain ⟨b, o, c, b', o', c', hc0, hc1, hgl, hbl, hbl', hat, hat'⟩ := heads_of ho hh hr1 hq1
  refine cols_ok _ oa cap oc j 2 1 t.1 W hout hmk (by decide) (by decide) (fun W' hW' => ?_) (fun W' hW' => columns_same g 0 2 cap b o t.1.length c t.1 j W' (Or.inr (Or.inr (Or.inr (Or.inr (Or.inl hcode))))) (by decide) (Nat.lt_of_lt_of_le hgl hW'.size) ((hW'.cell (p := ⟨g, 0, none⟩) hgl).trans hc0) rfl (by omega) (Nat.lt_of_lt_of_le hbl hW'.size) (hat.below hW' hbl))
  have := wrong_union g 0 cap b o c b' o' c' t.1 u.1 j W' hcode (Nat.lt_of_lt_of_le hgl hW'.size) ((hW'.cell (p := ⟨g, 0, none⟩) hgl).trans hc0) ((hW'.cell (p := ⟨g, 0 + 1, none⟩) hgl).trans hc1) (by omega) (by omega) (Nat.lt_of_lt_of_le hbl hW'.size) (Nat.lt_of_lt_of_le hbl' hW'.size) (hat.below hW' hbl) (hat'.below hW' hbl')
  rw [show uniErr t.1 u.1 = 0 by unfold uniErr; rw [if_pos he]] at this
  exact this
theorem uni_rows {tb tcap : Nat} {t u : Tb} {j : Jb} {w : World} (hcode : j.code = 5) (ht : TabsAt w tb 0 [t, u]) (htb : tb < w.heap.size) (hr : rightB t.1 t.2 = true) (hr' : rightB u.1 u.2 = true) (he : t.1 = u.1) :
    ∀ W, Below w.heap.size w W → Calls Tryz.prog 49 #[.agg j.cells, .slice (some ⟨tb, 0, none⟩) [t, u].length tcap] W fun e w' => ∃ v1 v2 us1 us2, e = .returned (.tuple #[v1, v2, .nilIface]) ∧ w'.ownsRow W.heap.size 62 1 v1 (t.2 ++ u.2).length us1 ∧ HeldRows w' W.heap.size us1 (t.2 ++ u.2) ∧ w'.ownsRow W.heap.size 62 1 v2 ([] : List (List Vl)).length us2 ∧ HeldRows w' W.heap.size us2 [] ∧ Below W.heap.size W w' := by
  obtain ⟨hr1, hr2, hr3, hr4⟩ := right_len hr
  obtain ⟨hq1, hq2, hq3, hq4⟩ := right_len hr'
  intro W hW
  obtain ⟨vc, vr, c0, c1, hc, hrs⟩ := ht 0 (by simp)
  obtain ⟨vc', vr', c2, c3, hc', hrs'⟩ := ht 1 (by simp)
  refine (rowsOf_union tb tcap vc vr vr' t.1 t.2 u.2 j W hcode (Nat.lt_of_lt_of_le htb hW.size) ((hW.cell (p := ⟨tb, 0, none⟩) htb).trans (by simpa using c0)) ((hW.cell (p := ⟨tb, 1, none⟩) htb).trans (by simpa using c1)) ((hW.cell (p := ⟨tb, 3, none⟩) htb).trans (by simpa using c3)) (hc.below hW) (hrs.below hW) (hrs'.below hW) (by rw [he]; exact hq4) (by omega) hr1 (by omega) hr4 (by omega)).mono ?_
  rintro e w' ⟨v1, us1, h1, h2, h3, hb⟩
  exact ⟨v1, .slice none 0 0, us1, [], h1, h2, h3, World.ownsRow_nil _ _ _ _, HeldRows.nil _ _, hb⟩

theorem do_uni_bad (tb tcap : Nat) (t u : Tb) (j : Jb) (oa : Option Addr) (oc : Nat) (w : World) (hcode : j.code = 5) (hout : j.outs = .slice oa 1 oc) (ht : TabsAt w tb 0 [t, u]) (htb : tb < w.heap.size) (hno : uniNo t u ≠ 0) :
    Calls Tryz.prog 15 #[.agg j.cells, .slice (some ⟨tb, 0, none⟩) 2 tcap] w fun e w' => e = .returned (.tuple #[.slice none 0 0, errV (uniNo t u)]) ∧ Below w.heap.size w w' := by
  have hmk : sizesI j.code = (((2 : Nat) : Int), ((1 : Nat) : Int)) := by rw [hcode]; rfl
  by_cases h1 : rightB t.1 t.2 = false ∨ rightB u.1 u.2 = false
  · rw [show uniNo t u = 1 by unfold uniNo; rw [if_pos h1]]
    refine do_arg tb 0 tcap [t, u] j w ht htb (by simp) ?_
    rcases h1 with h | h
    · exact ⟨t, by simp, h⟩
    · exact ⟨u, by simp, h⟩
  · have hr : rightB t.1 t.2 = true := by
      cases g : rightB t.1 t.2 with
      | true => rfl
      | false => exact absurd (Or.inl g) h1
    have hr' : rightB u.1 u.2 = true := by
      cases g : rightB u.1 u.2 with
      | true => rfl
      | false => exact absurd (Or.inr g) h1
    obtain ⟨hr1, hr2, hr3, hr4⟩ := right_len hr
    obtain ⟨hq1, hq2, hq3, hq4⟩ := right_len hr'
    by_cases he : t.1 = u.1
    · by_cases hf : 60 < t.2.length + u.2.length
      · rw [show uniNo t u = 12 by unfold uniNo; rw [if_neg h1, if_neg (by simpa using he), if_pos hf]]
        exact do_full tb 0 tcap [t, u] j w ht htb (by simp) (by simp) (two_right hr hr') t.1 1 (t.2 ++ u.2) [] (by simpa using hf) (uni_cols oa oc hcode hout hr hr' he) (uni_rows hcode ht htb hr hr' he)
      · exfalso
        apply hno
        unfold uniNo
        rw [if_neg h1, if_neg (by simpa using he), if_neg hf]
    · rw [show uniNo t u = 13 by unfold uniNo; rw [if_neg h1, if_pos he]]
      refine do_bad tb 0 tcap [t, u] j w ht htb (by simp) (by simp) (two_right hr hr') 13 (by decide) ?_
      intro W B g cap us hW ho hh
      obtain ⟨b, o, c, b', o', c', hc0, hc1, hgl, hbl, hbl', hat, hat'⟩ := heads_of ho hh hr1 hq1
      refine cols_bad _ oa cap oc j 2 1 13 W hout hmk (by decide) (by decide) (fun W' hW' => ?_)
      have := wrong_union g 0 cap b o c b' o' c' t.1 u.1 j W' hcode (Nat.lt_of_lt_of_le hgl hW'.size) ((hW'.cell (p := ⟨g, 0, none⟩) hgl).trans hc0) ((hW'.cell (p := ⟨g, 0 + 1, none⟩) hgl).trans hc1) (by omega) (by omega) (Nat.lt_of_lt_of_le hbl hW'.size) (Nat.lt_of_lt_of_le hbl' hW'.size) (hat.below hW' hbl) (hat'.below hW' hbl')
      rw [show uniErr t.1 u.1 = 13 by unfold uniErr; rw [if_neg he]] at this
      exact this

theorem do_uni_ok (tb tcap : Nat) (t u : Tb) (j : Jb) (oa : Option Addr) (oc : Nat) (w : World) (hcode : j.code = 5) (hout : j.outs = .slice oa 1 oc) (ht : TabsAt w tb 0 [t, u]) (htb : tb < w.heap.size) (hno : uniNo t u = 0) :
    Calls Tryz.prog 15 #[.agg j.cells, .slice (some ⟨tb, 0, none⟩) 2 tcap] w fun e w' => ∃ g c, e = .returned (.tuple #[.slice (some ⟨g, 0, none⟩) 1 c, .nilIface]) ∧ w.heap.size ≤ g ∧ g < w'.heap.size ∧ TabsNew w' w.heap.size g [(t.1, t.2 ++ u.2)] ∧ Below w.heap.size w w' := by
  obtain ⟨hr, hr', he, hf⟩ := uniNo_0 hno
  obtain ⟨vc, vr, c0, c1, hc, hrs⟩ := ht 0 (by simp)
  exact do_ok1 tb 0 tcap [t, u] j w ht htb (by simp) (by simp) (two_right hr hr') t.1 (t.2 ++ u.2) [] (by simpa using hf) (cols_size hc) (uni_cols oa oc hcode hout hr hr' he) (uni_rows hcode ht htb hr hr' he)

end Go.Proofs.YtjceppinfjbegaaGreatDoor

