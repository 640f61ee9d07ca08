import Derived.Test.YtjceppinfjbegaaGreatDoorJonG
set_option linter.unusedSimpArgs false
set_option linter.unusedVariables false
namespace Go.Proofs.YtjceppinfjbegaaGreatDoor
open Go.RowKit

/-- A job's two columns. -/
def TwoNames (w : World) (v : Value) (x y : ByteArray) : Prop := ∃ nb no cc, v = .slice (some ⟨nb, no, none⟩) 2 cc ∧ nb < w.heap.size ∧ w.cell? ⟨nb, no, none⟩ = some (.string x) ∧ w.cell? ⟨nb, no + 1, none⟩ = some (.string y)
theorem TwoNames.below {w w' : World} {v : Value} {x y : ByteArray} (h : TwoNames w v x y) (hb : Below w.heap.size w w') : TwoNames w' v x y := by
  obtain ⟨nb, no, cc, e, hl, h0, h1⟩ := h
  exact ⟨nb, no, cc, e, Nat.lt_of_lt_of_le hl hb.size, (hb.cell (p := ⟨nb, no, none⟩) hl).trans h0, (hb.cell (p := ⟨nb, no + 1, none⟩) hl).trans h1⟩
def pOf (cs : List Cl) (x : ByteArray) : Nat := (placeN cs x.data.toList).getD 0
/-- What is told of two tables that are joined (0: nothing is wrong). -/
def joinNo (t u : Tb) (x y : ByteArray) : Int := if rightB t.1 t.2 = false ∨ rightB u.1 u.2 = false then 1 else if joinErr t.1 u.1 x y ≠ 0 then joinErr t.1 u.1 x y else if 60 < (joinL t.2 u.2 (pOf t.1 x) (pOf u.1 y)).length then 12 else 0
theorem joinErr_0 {cs ds : List Cl} {x y : ByteArray} (h : joinErr cs ds x y = 0) : placeN cs x.data.toList = some (pOf cs x) ∧ placeN ds y.data.toList = some (pOf ds y) := by
  unfold joinErr at h
  unfold pOf
  split at h
  · rename_i p q h1 h2
    rw [h1, h2]
    exact ⟨rfl, rfl⟩
  · cases h
theorem headsC_of {W : World} {B g cap : Nat} {us : List Value} {cs cs' : List Cl} (ho : W.ownsRow B 33 1 (.slice (some ⟨g, 0, none⟩) 2 cap) 2 us) (hh : HeadsIs W us [cs, cs']) (h1 : 1 ≤ cs.length) (h1' : 1 ≤ cs'.length) :
    ∃ b o c b' o' c', W.cell? ⟨g, 0, none⟩ = some (.slice (some ⟨b, o, none⟩) cs.length c) ∧ W.cell? ⟨g, 0 + 1, none⟩ = some (.slice (some ⟨b', o', none⟩) cs'.length c') ∧ g < W.heap.size ∧ b < W.heap.size ∧ b' < W.heap.size ∧ ColsAt W b o cs ∧ ColsAt W b' o' cs' ∧ cs'.length ≤ c' ∧ (∀ z ∈ cs ++ cs', z.1.size ≤ maxLen) := by
  obtain ⟨u, hu, hc⟩ := hh.2 0 (by simp)
  obtain ⟨u', hu', hc'⟩ := hh.2 1 (by simp)
  obtain ⟨-, -, -, -, hs, -⟩ := id hc
  obtain ⟨a2, c2, e2, hcap, hs', -⟩ := id hc'
  obtain ⟨b, o, c, rfl, hbl, hat⟩ := cols_at hc h1
  obtain ⟨b', o', c', rfl, hbl', hat'⟩ := cols_at hc' h1'
  simp only [Value.slice.injEq] at e2
  refine ⟨b, o, c, b', o', c', list_cell ho 0 _ (by decide) hu, list_cell ho 1 _ (by decide) hu', (ho.lt g rfl).2, hbl, hbl', hat, hat', by rw [e2.2.2]; exact hcap, fun z hz => ?_⟩
  rcases List.mem_append.1 hz with h | h
  · exact hs z h
  · exact hs' z h

theorem joinW {t u : Tb} {x y : ByteArray} {j : Jb} (hcode : j.code = 7) (hr : rightB t.1 t.2 = true) (hr' : rightB u.1 u.2 = true) {W : World} {B g cap : Nat} {us : List Value} (hN : TwoNames W j.cols x y) (ho : W.ownsRow B 33 1 (.slice (some ⟨g, 0, none⟩) 2 cap) 2 us) (hh : HeadsIs W us [t.1, u.1]) :
    ∀ W', Below W.heap.size W W' → Calls Tryz.prog 35 #[.agg j.cells, .slice (some ⟨g, 0, none⟩) 2 cap] W' fun e w' => e = .returned (errV (joinErr t.1 u.1 x y)) ∧ Below W'.heap.size W' w' := by
  obtain ⟨hr1, hr2, hr3, hr4⟩ := right_len hr
  obtain ⟨hq1, hq2, hq3, hq4⟩ := right_len hr'
  obtain ⟨b, o, c, b', o', c', hc0, hc1, hgl, hbl, hbl', hat, hat', hcap, hsz⟩ := headsC_of ho hh hr1 hq1
  intro W' hW'
  refine wrong_join g 0 cap b o t.1.length c b' o' u.1.length c' j _ W' hcode (Nat.lt_of_lt_of_le hgl hW'.size) ((hW'.cell (p := ⟨g, 0, none⟩) hgl).trans hc0) ((hW'.cell (p := ⟨g, 0 + 1, none⟩) hgl).trans hc1) (fun V hV => ?_)
  have hV' := bel_then hW' hV
  obtain ⟨nb, no, cc, e, hl, s0, s1⟩ := hN.below hV'
  exact join_any b o t.1.length c b' o' u.1.length c' nb no cc t.1 u.1 x y j V e hl s0 s1 rfl hr1 (by omega) (Nat.lt_of_lt_of_le hbl hV'.size) (hat.below hV' hbl) rfl (by omega) hcap (Nat.lt_of_lt_of_le hbl' hV'.size) (hat'.below hV' hbl') hsz
theorem join_cols {t u : Tb} {x y : ByteArray} {j : Jb} {w : World} (oa : Option Addr) (oc : Nat) (hcode : j.code = 7) (hout : j.outs = .slice oa 1 oc) (hN : TwoNames w j.cols x y) (hr : rightB t.1 t.2 = true) (hr' : rightB u.1 u.2 = true) (he : joinErr t.1 u.1 x y = 0) :
    ∀ W B g cap us, Below w.heap.size w W → W.ownsRow B 33 1 (.slice (some ⟨g, 0, none⟩) [t, u].length cap) [t, u].length us → HeadsIs W us ([t, u].map (·.1)) → Calls Tryz.prog 11 #[.agg j.cells, .slice (some ⟨g, 0, none⟩) [t, u].length cap] W fun e w' => ∃ v us, e = .returned (.tuple #[v, .nilIface]) ∧ w'.ownsRow W.heap.size 33 1 v 1 us ∧ HeldCols w' W.heap.size us (besL t.1 u.1 (pOf u.1 y)) ∧ Below W.heap.size W w' := by
  obtain ⟨hr1, hr2, hr3, hr4⟩ := right_len hr
  obtain ⟨hq1, hq2, hq3, hq4⟩ := right_len hr'
  have hmk : sizesI j.code = (((2 : Nat) : Int), ((1 : Nat) : Int)) := by rw [hcode]; rfl
  intro W B g cap us hW ho hh
  obtain ⟨b, o, c, b', o', c', hc0, hc1, hgl, hbl, hbl', hat, hat', hcap, hsz⟩ := headsC_of ho hh hr1 hq1
  refine cols_ok _ oa cap oc j 2 1 (besL t.1 u.1 (pOf u.1 y)) W hout hmk (by decide) (by decide) (fun W' hW' => ?_) (fun W' hW' => ?_)
  · have := joinW hcode hr hr' (hN.below hW) ho hh W' hW'
    rw [he, errV_0] at this
    exact this
  · obtain ⟨nb, no, cc, e, hl, s0, s1⟩ := (hN.below hW).below hW'
    exact columns_join g 0 cap b o c b' o' c' nb no cc (pOf u.1 y) t.1 u.1 y j W' hcode e hl s1 (Nat.lt_of_lt_of_le hgl hW'.size) ((hW'.cell (p := ⟨g, 0, none⟩) hgl).trans hc0) ((hW'.cell (p := ⟨g, 0 + 1, none⟩) hgl).trans hc1) (joinErr_0 he).2 (by omega) (Nat.lt_of_lt_of_le hbl hW'.size) (hat.below hW' hbl) (by omega) hcap (Nat.lt_of_lt_of_le hbl' hW'.size) (hat'.below hW' hbl')
theorem join_rows {tb tcap : Nat} {t u : Tb} {x y : ByteArray} {vr2 : Value} {j : Jb} {w : World} (hcode : j.code = 7) (hN : TwoNames w j.cols x y) (ht : TabsAt w tb 0 [t, u]) (htb : tb < w.heap.size) (hv3 : w.cell? ⟨tb, 3, none⟩ = some vr2) (hrc : RowsC w vr2 u.2) (hr : rightB t.1 t.2 = true) (hr' : rightB u.1 u.2 = true) (he : joinErr t.1 u.1 x y = 0) :
    ∀ W, Below w.heap.size w W → Calls Tryz.prog 49 #[.agg j.cells, .slice (some ⟨tb, 0, none⟩) [t, u].length tcap] W fun e w' => ∃ v1 v2 us1 us2, e = .returned (.tuple #[v1, v2, .nilIface]) ∧ w'.ownsRow W.heap.size 62 1 v1 (joinL t.2 u.2 (pOf t.1 x) (pOf u.1 y)).length us1 ∧ HeldRows w' W.heap.size us1 (joinL t.2 u.2 (pOf t.1 x) (pOf u.1 y)) ∧ w'.ownsRow W.heap.size 62 1 v2 ([] : List (List Vl)).length us2 ∧ HeldRows w' W.heap.size us2 [] ∧ Below W.heap.size W w' := by
  obtain ⟨hr1, hr2, hr3, hr4⟩ := right_len hr
  obtain ⟨hq1, hq2, hq3, hq4⟩ := right_len hr'
  obtain ⟨hp, hq⟩ := joinErr_0 he
  intro W hW
  obtain ⟨vc, vr, c0, c1, hc, hrs⟩ := ht 0 (by simp)
  obtain ⟨vc', vr', c2, c3, hc', hrs'⟩ := ht 1 (by simp)
  obtain ⟨nb, no, cc, e, hl, s0, s1⟩ := hN.below hW
  refine (rowsOf_join tb tcap nb no cc (pOf t.1 x) (pOf u.1 y) vc vr vc' vr2 t.1 u.1 t.2 u.2 x y j W hcode e hl s0 s1 hp hq (Nat.lt_of_lt_of_le htb hW.size) ((hW.cell (p := ⟨tb, 0, none⟩) htb).trans (by simpa using c0)) ((hW.cell (p := ⟨tb, 1, none⟩) htb).trans (by simpa using c1)) ((hW.cell (p := ⟨tb, 2, none⟩) htb).trans (by simpa using c2)) ((hW.cell (p := ⟨tb, 3, none⟩) htb).trans hv3) (hc.below hW) (hrs.below hW) (hc'.below hW) (hrc.below hW) hq4 (by omega) hq1 (by omega) hr1 (by omega) hr4 (by omega)).mono ?_
  rintro e w' ⟨v1, us1, h1, h2, h3, hb⟩
  exact ⟨v1, .slice none 0 0, us1, [], h1, h2, h3, World.ownsRow_nil _ _ _ _, HeldRows.nil _ _, hb⟩
theorem do_join_bad (tb tcap : Nat) (t u : Tb) (x y : ByteArray) (vr2 : Value) (j : Jb) (oa : Option Addr) (oc : Nat) (w : World) (hcode : j.code = 7) (hout : j.outs = .slice oa 1 oc) (hN : TwoNames w j.cols x y) (ht : TabsAt w tb 0 [t, u]) (htb : tb < w.heap.size) (hv3 : w.cell? ⟨tb, 3, none⟩ = some vr2) (hrc : RowsC w vr2 u.2) (hno : joinNo t u x y ≠ 0) :
    Calls Tryz.prog 15 #[.agg j.cells, .slice (some ⟨tb, 0, none⟩) 2 tcap] w fun e w' => e = .returned (.tuple #[.slice none 0 0, errV (joinNo t u x y)]) ∧ Below w.heap.size w w' := by
  have hmk : sizesI j.code = (((2 : Nat) : Int), ((1 : Nat) : Int)) := by rw [hcode]; rfl
  by_cases h1 : rightB t.1 t.2 = false ∨ rightB u.1 u.2 = false
  · rw [show joinNo t u x y = 1 by unfold joinNo; rw [if_pos h1]]
    refine do_arg tb 0 tcap [t, u] j w ht htb (by simp) ?_
    rcases h1 with h | h
    · exact ⟨t, by simp, h⟩
    · exact ⟨u, by simp, h⟩
  · have hr : rightB t.1 t.2 = true := by
      cases g : rightB t.1 t.2 with
      | true => rfl
      | false => exact absurd (Or.inl g) h1
    have hr' : rightB u.1 u.2 = true := by
      cases g : rightB u.1 u.2 with
      | true => rfl
      | false => exact absurd (Or.inr g) h1
    by_cases he : joinErr t.1 u.1 x y = 0
    · by_cases hf : 60 < (joinL t.2 u.2 (pOf t.1 x) (pOf u.1 y)).length
      · rw [show joinNo t u x y = 12 by unfold joinNo; rw [if_neg h1, if_neg (by simpa using he), if_pos hf]]
        exact do_full tb 0 tcap [t, u] j w ht htb (by simp) (by simp) (two_right hr hr') _ 1 (joinL t.2 u.2 (pOf t.1 x) (pOf u.1 y)) [] hf (join_cols oa oc hcode hout hN hr hr' he) (join_rows hcode hN ht htb hv3 hrc hr hr' he)
      · exfalso
        apply hno
        unfold joinNo
        rw [if_neg h1, if_neg (by simpa using he), if_neg hf]
    · rw [show joinNo t u x y = joinErr t.1 u.1 x y by unfold joinNo; rw [if_neg h1, if_pos he]]
      refine do_bad tb 0 tcap [t, u] j w ht htb (by simp) (by simp) (two_right hr hr') _ he ?_
      intro W B g cap us hW ho hh
      exact cols_bad _ oa cap oc j 2 1 _ W hout hmk (by decide) he (joinW hcode hr hr' (hN.below hW) ho hh)
theorem joinNo_0 {t u : Tb} {x y : ByteArray} (h : joinNo t u x y = 0) : rightB t.1 t.2 = true ∧ rightB u.1 u.2 = true ∧ joinErr t.1 u.1 x y = 0 ∧ (joinL t.2 u.2 (pOf t.1 x) (pOf u.1 y)).length ≤ 60 := by
  unfold joinNo at h
  split at h
  · cases h
  · rename_i h1
    split at h
    · rename_i h2; exact absurd h h2
    · rename_i h2
      split at h
      · cases h
      · rename_i h3
        refine ⟨?_, ?_, by simpa using h2, by omega⟩
        · cases g : rightB t.1 t.2 with
          | true => rfl
          | false => exact absurd (Or.inl g) h1
        · cases g : rightB u.1 u.2 with
          | true => rfl
          | false => exact absurd (Or.inr g) h1
theorem bes_size {cs ds : List Cl} {k : Nat} (h1 : ∀ z ∈ cs, z.1.size ≤ maxLen) (h2 : ∀ z ∈ ds, z.1.size ≤ maxLen) : ∀ z ∈ besL cs ds k, z.1.size ≤ maxLen := by
  intro z hz
  unfold besL at hz
  rw [List.mem_append, List.mem_append] at hz
  rcases hz with (hz | hz) | hz
  · exact h1 z hz
  · exact h2 z (List.mem_of_mem_take hz)
  · exact h2 z (List.mem_of_mem_drop hz)
theorem do_join_ok (tb tcap : Nat) (t u : Tb) (x y : ByteArray) (vr2 : Value) (j : Jb) (oa : Option Addr) (oc : Nat) (w : World) (hcode : j.code = 7) (hout : j.outs = .slice oa 1 oc) (hN : TwoNames w j.cols x y) (ht : TabsAt w tb 0 [t, u]) (htb : tb < w.heap.size) (hv3 : w.cell? ⟨tb, 3, none⟩ = some vr2) (hrc : RowsC w vr2 u.2) (hno : joinNo t u x y = 0) :
    Calls Tryz.prog 15 #[.agg j.cells, .slice (some ⟨tb, 0, none⟩) 2 tcap] w fun e w' => ∃ g c, e = .returned (.tuple #[.slice (some ⟨g, 0, none⟩) 1 c, .nilIface]) ∧ w.heap.size ≤ g ∧ g < w'.heap.size ∧ TabsNew w' w.heap.size g [(besL t.1 u.1 (pOf u.1 y), joinL t.2 u.2 (pOf t.1 x) (pOf u.1 y))] ∧ Below w.heap.size w w' := by
  obtain ⟨hr, hr', he, hf⟩ := joinNo_0 hno
  obtain ⟨vc, vr, c0, c1, hc, hrs⟩ := ht 0 (by simp)
  obtain ⟨vc', vr', c2, c3, hc', hrs'⟩ := ht 1 (by simp)
  exact do_ok1 tb 0 tcap [t, u] j w ht htb (by simp) (by simp) (two_right hr hr') (besL t.1 u.1 (pOf u.1 y)) (joinL t.2 u.2 (pOf t.1 x) (pOf u.1 y)) [] hf (bes_size (cols_size hc) (cols_size hc')) (join_cols oa oc hcode hout hN hr hr' he) (join_rows hcode hN ht htb hv3 hrc hr hr' he)
def jJoin (v : Value) : Jb := ⟨0, 7, .slice none 0 0, .slice none 0 0, v, ⟨#[]⟩, (⟨#[]⟩, 0, 0, ⟨#[]⟩), (⟨#[]⟩, 0, 0, ⟨#[]⟩), 0⟩
set_option maxRecDepth 100000 in
theorem one_join (cv vc vr vc' vr' : Value) (t u : Tb) (x y : ByteArray) (W : World) (H : Nat) (hH : W.heap.size = H) (hN : TwoNames W cv x y) (hc : ColsIs W vc t.1) (hr : RowsIs W vr t.2) (hc' : ColsIs W vc' u.1) (hr' : RowsC W vr' u.2) :
    Calls Tryz.prog 19 #[.agg (jJoin cv).cells, .slice (some ⟨H, 0, none⟩) 2 2] (W.alloc (.cells #[vc, vr, vc', vr'] 36)) fun e w' => OneRes e w' W.heap.size (joinNo t u x y = 0) (besL t.1 u.1 (pOf u.1 y), joinL t.2 u.2 (pOf t.1 x) (pOf u.1 y)) ∧ Below (W.alloc (.cells #[vc, vr, vc', vr'] 36)).heap.size (W.alloc (.cells #[vc, vr, vc', vr'] 36)) w' := by
  have ht := tabs_two W vc vr vc' vr' t u 36 H hH hc hr hc' hr'.is
  have hcd : 1 ≤ (jJoin cv).code ∧ (jJoin cv).code ≤ 8 := by show (1 : Int) ≤ 7 ∧ (7 : Int) ≤ 8; exact ⟨by decide, by decide⟩
  have hN0 := hN.below (below_box W (.cells #[vc, vr, vc', vr'] 36))
  have hr0 := hr'.below (below_box W (.cells #[vc, vr, vc', vr'] 36))
  have h3 : (W.alloc (.cells #[vc, vr, vc', vr'] 36)).cell? ⟨H, 3, none⟩ = some vr' := by subst hH; rw [World.cell?_alloc_at _ _ _ _ rfl]; rfl
  have hHl : H < (W.alloc (.cells #[vc, vr, vc', vr'] 36)).heap.size := by simp; omega
  by_cases hok : joinNo t u x y = 0
  · refine (one_ok H 0 2 2 (jJoin cv) (besL t.1 u.1 (pOf u.1 y), joinL t.2 u.2 (pOf t.1 x) (pOf u.1 y)) _ hcd (fun W' H' hW' _ => ?_)).mono ?_
    · exact do_join_ok H 2 t u x y vr' ((jJoin cv).withOuts (.slice (some ⟨H', 0, none⟩) 1 2)) (some ⟨H', 0, none⟩) 2 W' rfl rfl (hN0.below hW') (ht.below hW' (by simp; omega)) (by have := hW'.size; simp at this; omega) ((hW'.cell (p := ⟨H, 3, none⟩) hHl).trans h3) (hr0.below hW') hok
    · rintro e w' ⟨a1, a2, rfl, h1, h2, h3⟩
      exact ⟨Or.inl ⟨hok, a1, a2, rfl, h1.mono (by simp), h2.mono (by simp)⟩, h3⟩
  · refine (one_bad H 0 2 2 (jJoin cv) (joinNo t u x y) _ hcd hok (fun W' H' hW' _ => ?_)).mono ?_
    · exact do_join_bad H 2 t u x y vr' ((jJoin cv).withOuts (.slice (some ⟨H', 0, none⟩) 1 2)) (some ⟨H', 0, none⟩) 2 W' rfl rfl (hN0.below hW') (ht.below hW' (by simp; omega)) (by have := hW'.size; simp at this; omega) ((hW'.cell (p := ⟨H, 3, none⟩) hHl).trans h3) (hr0.below hW') hok
    · rintro e w' ⟨rfl, h3⟩
      exact ⟨Or.inr ⟨hok, rfl⟩, h3⟩
end Go.Proofs.YtjceppinfjbegaaGreatDoor

