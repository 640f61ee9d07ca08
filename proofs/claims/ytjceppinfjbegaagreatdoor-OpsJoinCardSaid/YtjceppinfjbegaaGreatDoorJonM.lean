import Derived.Test.YtjceppinfjbegaaGreatDoorJonL
set_option linter.unusedSimpArgs false
set_option linter.unusedVariables false
namespace Go.Proofs.YtjceppinfjbegaaGreatDoor
open Go.RowKit

theorem right_valsG {cs : List Cl} {rs : List (List Vl)} (h : rightB cs rs = true) : ∀ r ∈ rs, ∀ x ∈ r, rvB x = true := by
  intro r hr x hx
  obtain ⟨h1, h2, h3⟩ := right_cols h
  obtain ⟨l1, l2, l3, l4⟩ := right_len h
  obtain ⟨i, hi, rfl⟩ := List.mem_iff_getElem.1 hx
  exact (rowT_at (h3 r hr) i hi (by rw [← l4 r hr]; exact hi)).2
theorem rv_numG {x : Vl} (h : rvB x = true) : inNum x.2.1 := by
  have := right_small h
  exact ⟨this.2.1, this.2.2⟩
theorem rows_sizeG {w : World} {v : Value} {rs : List (List Vl)} (h : RowsIs w v rs) : ∀ r ∈ rs, ∀ x ∈ r, x.2.2.size ≤ maxLen := by
  obtain ⟨a, c, -, h | ⟨b, o, -, -, hat⟩⟩ := h
  · rw [h]; intro r hr; simp at hr
  · intro r hr x hx
    obtain ⟨i, hi, rfl⟩ := List.getElem_of_mem hr
    obtain ⟨u, -, -, -, -, hs, -⟩ := hat i hi
    exact hs x hx
theorem grpErr_0 {cs : List Cl} {x y : ByteArray} (h : grpErr cs x y = 0) : placeN cs x.data.toList = some (pOf cs x) ∧ placeN cs y.data.toList = some (pOf cs y) ∧ kindAt cs (pOf cs y) = 1 ∧ pOf cs x ≠ pOf cs y := by
  unfold grpErr at h
  unfold pOf
  split at h
  · rename_i p q h1 h2
    rw [h1, h2]
    split at h
    · cases h
    · rename_i h3
      split at h
      · cases h
      · rename_i h4
        exact ⟨rfl, rfl, by simpa using h3, h4⟩
  · cases h
theorem grp_list {cs : List Cl} {x y : ByteArray} (h : grpErr cs x y = 0) : listErr cs [x, y] = 0 := by
  obtain ⟨h1, h2, -, h4⟩ := grpErr_0 h
  have h5 : x.data.toList ≠ y.data.toList := fun e => h4 (by unfold pOf; rw [e])
  unfold listErr
  rw [if_neg (by simp)]
  simp [lerr, h1, h2, inS]
  exact fun e => h5 (by rw [e])
theorem grp_places {cs : List Cl} {x y : ByteArray} : placesN cs [x, y] = [pOf cs x, pOf cs y] := rfl
theorem strs_two {w : World} {v : Value} {x y : ByteArray} (h : StrsC w v [x, y]) : TwoNames w v x y := by
  obtain ⟨a, c, e, -, -, h | ⟨b, o, rfl, hl, hat⟩⟩ := h
  · simp at h
  · exact ⟨b, o, c, e, hl, by simpa using hat 0 (by simp), by simpa using hat 1 (by simp)⟩
/-- The sums of the groups. -/
def grpOf (t : Tb) (x y : ByteArray) : List Gr := grpL (pOf t.1 x) (pOf t.1 y) (sortR [pOf t.1 x] t.2)
/-- The table of the groups. -/
def grpT (t : Tb) (x y : ByteArray) : Tb := (pickC [pOf t.1 x, pOf t.1 y] t.1, grpRows (grpOf t x y))
open Classical in
/-- What is told of a table that is grouped by sums (0: nothing is wrong). -/
noncomputable def grpNo (t : Tb) (x y : ByteArray) : Int := if rightB t.1 t.2 = false then 1 else if grpErr t.1 x y ≠ 0 then grpErr t.1 x y else if ∀ g ∈ grpOf t x y, inNum g.2 then 0 else 2
theorem grpNo_0 {t : Tb} {x y : ByteArray} (h : grpNo t x y = 0) : rightB t.1 t.2 = true ∧ grpErr t.1 x y = 0 ∧ ∀ g ∈ grpOf t x y, inNum g.2 := by
  unfold grpNo at h
  split at h
  · cases h
  · rename_i h1
    split at h
    · rename_i h2; exact absurd h h2
    · rename_i h2
      split at h
      · rename_i h3
        exact ⟨by simpa using h1, by simpa using h2, h3⟩
      · cases h
theorem grp_wrong {t : Tb} {x y : ByteArray} {j : Jb} {W : World} {B g cap : Nat} {us : List Value} (hcode : j.code = 8) (hop : j.op = ⟨#[115, 117, 109]⟩) (hr : rightB t.1 t.2 = true) (hs : StrsC W j.cols [x, y]) (ho : W.ownsRow B 33 1 (.slice (some ⟨g, 0, none⟩) 1 cap) 1 us) (hh : HeadsIs W us [t.1]) : ∀ W', Below W.heap.size W W' → Calls Tryz.prog 35 #[.agg j.cells, .slice (some ⟨g, 0, none⟩) 1 cap] W' fun e w' => e = .returned (errV (grpErr t.1 x y)) ∧ Below W'.heap.size W' w' := by
  intro W' hW'
  obtain ⟨hr1, hr2, hr3, hr4⟩ := right_len hr
  obtain ⟨b, o, c, hc0, hgl, hbl, hat⟩ := head_of ho hh hr1
  refine wrong_grp g 0 1 cap b o t.1.length c j _ W' hcode (by decide) (Nat.lt_of_lt_of_le hgl hW'.size) ((hW'.cell (p := ⟨g, 0, none⟩) hgl).trans hc0) (fun W2 hW2 => ?_)
  have hb2 := bel_then hW' hW2
  obtain ⟨nb, no, cc, e, hnl, s0, s1⟩ := (strs_two hs).below hb2
  exact group_any b o t.1.length c nb no cc t.1 x y j W2 e hop hnl s0 s1 rfl (by omega) (Nat.lt_of_lt_of_le hbl hb2.size) (hat.below hb2 hbl)
theorem grp_cols {t : Tb} {x y : ByteArray} {j : Jb} {oa : Option Addr} {oc : Nat} {w : World} (hcode : j.code = 8) (hop : j.op = ⟨#[115, 117, 109]⟩) (hout : j.outs = .slice oa 1 oc) (hs : StrsC w j.cols [x, y]) (hr : rightB t.1 t.2 = true) (he : grpErr t.1 x y = 0) : ∀ W B g cap us, Below w.heap.size w W → W.ownsRow B 33 1 (.slice (some ⟨g, 0, none⟩) [t].length cap) [t].length us → HeadsIs W us ([t].map (·.1)) → Calls Tryz.prog 11 #[.agg j.cells, .slice (some ⟨g, 0, none⟩) [t].length cap] W fun e w' => ∃ v us, e = .returned (.tuple #[v, .nilIface]) ∧ w'.ownsRow W.heap.size 33 1 v 1 us ∧ HeldCols w' W.heap.size us (grpT t x y).1 ∧ Below W.heap.size W w' := by
  intro W B g cap us hW ho hh
  have hmk : sizesI j.code = (((1 : Nat) : Int), ((1 : Nat) : Int)) := by rw [hcode]; rfl
  obtain ⟨hr1, hr2, hr3, hr4⟩ := right_len hr
  obtain ⟨b, o, c, hc0, hgl, hbl, hat⟩ := head_of ho hh hr1
  refine cols_ok _ oa cap oc j 1 1 (grpT t x y).1 W hout hmk (by decide) (by decide) (fun W' hW' => ?_) (fun W' hW' => columns_group g 0 1 cap b o t.1.length c t.1 [x, y] j W' hcode (by decide) (Nat.lt_of_lt_of_le hgl hW'.size) ((hW'.cell (p := ⟨g, 0, none⟩) hgl).trans hc0) ((hs.below hW).below hW') (grp_list he) rfl (by omega) (Nat.lt_of_lt_of_le hbl hW'.size) (hat.below hW' hbl))
  have := grp_wrong hcode hop hr (hs.below hW) ho hh W' hW'
  rw [he] at this
  exact this
theorem grp_nums {t : Tb} {x y : ByteArray} (hr : rightB t.1 t.2 = true) (he : grpErr t.1 x y = 0) : ∀ r ∈ t.2, inNum (vAt r (pOf t.1 y)).2.1 := by
  intro r hm
  obtain ⟨hr1, hr2, hr3, hr4⟩ := right_len hr
  have hp := place_some (grpErr_0 he).2.1
  rw [vAt_of (by rw [hr4 r hm]; exact hp)]
  exact rv_numG (right_valsG hr r hm _ (List.getElem_mem _))
theorem do_grp_bad (tb to_ tcap : Nat) (t : Tb) (x y : ByteArray) (j : Jb) (oa : Option Addr) (oc : Nat) (w : World) (hcode : j.code = 8) (hop : j.op = ⟨#[115, 117, 109]⟩) (hout : j.outs = .slice oa 1 oc) (hs : StrsC w j.cols [x, y]) (ht : TabsAt w tb to_ [t]) (htb : tb < w.heap.size) (hno : grpNo t x y ≠ 0) :
    Calls Tryz.prog 15 #[.agg j.cells, .slice (some ⟨tb, to_, none⟩) 1 tcap] w fun e w' => e = .returned (.tuple #[.slice none 0 0, errV (grpNo t x y)]) ∧ Below w.heap.size w w' := by
  have hmk : sizesI j.code = (((1 : Nat) : Int), ((1 : Nat) : Int)) := by rw [hcode]; rfl
  cases hr : rightB t.1 t.2
  · have : grpNo t x y = 1 := by unfold grpNo; rw [if_pos hr]
    rw [this]
    exact do_arg tb to_ tcap [t] j w ht htb (by simp) ⟨t, by simp, hr⟩
  · have hgood : ∀ u ∈ [t], rightB u.1 u.2 = true := by intro u hu; simp at hu; rw [hu]; exact hr
    by_cases he : grpErr t.1 x y = 0
    · by_cases hS : ∀ g ∈ grpOf t x y, inNum g.2
      · exfalso
        apply hno
        unfold grpNo
        rw [if_neg (by simp [hr]), if_neg (by simpa using he), if_pos hS]
      · have : grpNo t x y = 2 := by unfold grpNo; rw [if_neg (by simp [hr]), if_neg (by simpa using he), if_neg hS]
        rw [this]
        obtain ⟨hr1, hr2, hr3, hr4⟩ := right_len hr
        obtain ⟨vc, vr, c0, c1, hc, hrs⟩ := ht 0 (by simp)
        obtain ⟨hp, hq, -, -⟩ := grpErr_0 he
        refine do_rerr tb to_ tcap [t] j w ht htb (by simp) (by simp) hgood (grpT t x y).1 1 2 (by decide) (grp_cols hcode hop hout hs hr he) (fun W hW => ?_)
        obtain ⟨nb, no, cc, e, hnl, s0, s1⟩ := (strs_two hs).below hW
        exact rowsOf_group_bad tb to_ 1 tcap nb no cc _ _ vc vr t.1 t.2 x y j W hcode hop e hnl s0 s1 hp hq (by decide) (Nat.lt_of_lt_of_le htb hW.size) ((hW.cell (p := ⟨tb, to_, none⟩) htb).trans (by simpa using c0)) ((hW.cell (p := ⟨tb, to_ + 1, none⟩) htb).trans (by simpa using c1)) (hc.below hW) (hrs.below hW) hr1 (by omega) hr4 (by omega) (grp_nums hr he) (rows_sizeG hrs) hS
    · have hn : grpNo t x y = grpErr t.1 x y := by unfold grpNo; rw [if_neg (by simp [hr]), if_pos he]
      rw [hn]
      refine do_bad tb to_ tcap [t] j w ht htb (by simp) (by simp) hgood _ he ?_
      intro W B g cap us hW ho hh
      exact cols_bad _ oa cap oc j 1 1 _ W hout hmk (by decide) he (grp_wrong hcode hop hr (hs.below hW) ho hh)
theorem grp_len (t : Tb) (x y : ByteArray) : (grpRows (grpOf t x y)).length ≤ t.2.length := by
  have h := foldG_len (pOf t.1 x) (pOf t.1 y) (sortR [pOf t.1 x] t.2)
  rw [sortR_len] at h
  unfold grpRows
  rw [List.length_map]
  exact h
theorem pick_sizeC {cs : List Cl} {ks : List Nat} (h : ∀ z ∈ cs, z.1.size ≤ maxLen) : ∀ z ∈ pickC ks cs, z.1.size ≤ maxLen := by
  intro z hz
  unfold pickC at hz
  obtain ⟨k, -, rfl⟩ := List.mem_map.1 hz
  by_cases hk : k < cs.length
  · rw [List.getElem?_eq_getElem hk]
    exact h _ (List.getElem_mem hk)
  · rw [List.getElem?_eq_none (by omega)]
    exact Nat.zero_le _
theorem do_grp_ok (tb to_ tcap : Nat) (t : Tb) (x y : ByteArray) (j : Jb) (oa : Option Addr) (oc : Nat) (w : World) (hcode : j.code = 8) (hop : j.op = ⟨#[115, 117, 109]⟩) (hout : j.outs = .slice oa 1 oc) (hs : StrsC w j.cols [x, y]) (ht : TabsAt w tb to_ [t]) (htb : tb < w.heap.size) (hno : grpNo t x y = 0) :
    Calls Tryz.prog 15 #[.agg j.cells, .slice (some ⟨tb, to_, none⟩) 1 tcap] w fun e w' => ∃ g c, e = .returned (.tuple #[.slice (some ⟨g, 0, none⟩) 1 c, .nilIface]) ∧ w.heap.size ≤ g ∧ g < w'.heap.size ∧ TabsNew w' w.heap.size g [grpT t x y] ∧ Below w.heap.size w w' := by
  obtain ⟨hr, he, hS⟩ := grpNo_0 hno
  obtain ⟨hr1, hr2, hr3, hr4⟩ := right_len hr
  obtain ⟨vc, vr, c0, c1, hc, hrs⟩ := ht 0 (by simp)
  obtain ⟨hp, hq, -, -⟩ := grpErr_0 he
  refine do_ok1 tb to_ tcap [t] j w ht htb (by simp) (by simp) (by intro u hu; simp at hu; rw [hu]; exact hr) (grpT t x y).1 (grpT t x y).2 [] (by have := grp_len t x y; show (grpRows (grpOf t x y)).length ≤ 60; omega) (pick_sizeC (cols_size hc)) (grp_cols hcode hop hout hs hr he) (fun W hW => ?_)
  obtain ⟨nb, no, cc, e, hnl, s0, s1⟩ := (strs_two hs).below hW
  refine (rowsOf_group_ok tb to_ 1 tcap nb no cc _ _ vc vr t.1 t.2 x y j W hcode hop e hnl s0 s1 hp hq (by decide) (Nat.lt_of_lt_of_le htb hW.size) ((hW.cell (p := ⟨tb, to_, none⟩) htb).trans (by simpa using c0)) ((hW.cell (p := ⟨tb, to_ + 1, none⟩) htb).trans (by simpa using c1)) (hc.below hW) (hrs.below hW) hr1 (by omega) hr4 (by omega) (grp_nums hr he) (rows_sizeG hrs) hS).mono ?_
  rintro e w' ⟨v1, us1, h1, h2, h3, hb⟩
  exact ⟨v1, .slice none 0 0, us1, [], h1, h2, h3, World.ownsRow_nil _ _ _ _, HeldRows.nil _ _, hb⟩
set_option maxRecDepth 100000 in
theorem one_grp (j : Jb) (x y : ByteArray) (vc vr : Value) (t : Tb) (W : World) (H : Nat) (hH : W.heap.size = H) (hc : ColsIs W vc t.1) (hr : RowsIs W vr t.2) (hcode : j.code = 8) (hop : j.op = ⟨#[115, 117, 109]⟩) (hs : StrsC W j.cols [x, y]) :
    Calls Tryz.prog 19 #[.agg j.cells, .slice (some ⟨H, 0, none⟩) 1 1] (W.alloc (.cells #[vc, vr] 36)) fun e w' => OneRes e w' W.heap.size (grpNo t x y = 0) (grpT t x y) ∧ Below (W.alloc (.cells #[vc, vr] 36)).heap.size (W.alloc (.cells #[vc, vr] 36)) w' := by
  have ht := tabs_new W vc vr t 36 H hH hc hr
  have hcd : 1 ≤ j.code ∧ j.code ≤ 8 := by rw [hcode]; exact ⟨by decide, by decide⟩
  have hs' := hs.below (below_box W (.cells #[vc, vr] 36))
  by_cases hok : grpNo t x y = 0
  · refine (one_ok H 0 1 1 j (grpT t x y) _ hcd (fun W' H' hW' _ => ?_)).mono ?_
    · exact do_grp_ok H 0 1 t x y (j.withOuts (.slice (some ⟨H', 0, none⟩) 1 2)) (some ⟨H', 0, none⟩) 2 W' hcode hop rfl (hs'.below hW') (ht.below hW' (by simp; omega)) (by have := hW'.size; simp at this; omega) hok
    · rintro e w' ⟨a1, a2, rfl, h1, h2, h3⟩
      exact ⟨Or.inl ⟨hok, a1, a2, rfl, h1.mono (by simp), h2.mono (by simp)⟩, h3⟩
  · refine (one_bad H 0 1 1 j (grpNo t x y) _ hcd hok (fun W' H' hW' _ => ?_)).mono ?_
    · exact do_grp_bad H 0 1 t x y (j.withOuts (.slice (some ⟨H', 0, none⟩) 1 2)) (some ⟨H', 0, none⟩) 2 W' hcode hop rfl (hs'.below hW') (ht.below hW' (by simp; omega)) (by have := hW'.size; simp at this; omega) hok
    · rintro e w' ⟨rfl, h3⟩
      exact ⟨Or.inr ⟨hok, rfl⟩, h3⟩
end Go.Proofs.YtjceppinfjbegaaGreatDoor

