import Derived.Test.YtfifbnopgpffkaaGreatDoorPlnC
set_option linter.unusedSimpArgs false
set_option linter.unusedVariables false
namespace Go.Proofs.YtfifbnopgpffkaaGreatDoor.Pl
open Go.RowKit
open Fw (By FJob Flw ba)

/-- Lists of columns, one behind the other. -/
def HeadsV (w : World) (hb ho : Nat) (ins : List Cs) : Prop := hb < w.heap.size ∧ ∀ i (h : i < ins.length), ∃ u, w.cell? ⟨hb, ho + i, none⟩ = some u ∧ ColV w u ins[i]
theorem HeadsV.below {w w' : World} {hb ho : Nat} {ins : List Cs} (h : HeadsV w hb ho ins) (hb' : Below w.heap.size w w') : HeadsV w' hb ho ins :=
  ⟨Nat.lt_of_lt_of_le h.1 hb'.size, fun i hi => by
    obtain ⟨u, h1, h2⟩ := h.2 i hi
    exact ⟨u, (hb'.cell (p := ⟨hb, ho + i, none⟩) h.1).trans h1, h2.below hb'⟩⟩
theorem getD0 {ins : List Cs} (h : 0 < ins.length) : ins.getD 0 [] = ins[0] := by rw [List.getD_eq_getElem?_getD, List.getElem?_eq_getElem h]; rfl
theorem getD1 {ins : List Cs} (h : 1 < ins.length) : ins.getD 1 [] = ins[1] := by rw [List.getD_eq_getElem?_getD, List.getElem?_eq_getElem h]; rfl
theorem ba_list (l : By) : (ba l).data.toList = l := rfl
theorem ari_in {x : By} (h : x ∈ Fw.ariL) : inS threeOps x = true := by
  simp [Fw.ariL] at h
  rcases h with rfl | rfl | rfl <;> rfl
theorem wrong_job (j : FJob) (vo vi vc : Value) (ins : List Cs) (hb ho cin : Nat) (w : World) (hj : Fw.JobOK j) (hc : Fw.StrsR w vc j.cols) (hH : HeadsV w hb ho ins) (hok : ∀ c ∈ ins, CsOK c) (hl : ins.length = j.ins.length) :
    Calls Tryz.prog 71 #[.agg (jbOf j vo vi vc).cells, .slice (some ⟨hb, ho, none⟩) ins.length cin] w fun e w' => e = .returned (errV (bodyE j ins)) ∧ Below w.heap.size w w' := by
  obtain ⟨f2, f7, f8, fi, fo⟩ := hj.fm
  have hpos : 0 < ins.length := by
    rw [hl]
    by_cases e5 : j.code = 5
    · obtain ⟨a, b, e⟩ := fi (Or.inl e5); rw [e]; simp
    · by_cases e7 : j.code = 7
      · obtain ⟨a, b, e⟩ := fi (Or.inr e7); rw [e]; simp
      · obtain ⟨a, e⟩ := fo e5 e7; rw [e]; simp
  obtain ⟨u0, h0, b0, o0, c0, rfl, hcap0, hb0, hc0⟩ := hH.2 0 hpos
  have k0 := hok _ (List.getElem_mem hpos)
  have hr := hj.r
  have hlf := hj.l
  have sz : ∀ {x : By}, x.length ≤ 1000 → (ba x).size ≤ maxLen := fun {x} h => Nat.le_trans h (by decide)
  rw [Nat.add_zero] at h0
  unfold bodyE
  rcases hj.code with e | e | e | e | e | e | e | e | e
  · rw [if_pos (Or.inl e), getD0 hpos]
    exact wrong_test hb ho ins.length cin b0 o0 _ c0 ins[0] (jbOf j vo vi vc) w (Or.inl e) hpos hH.1 h0 rfl (by have := k0.2.1; omega) hb0 hc0 (sz hr.2.1)
  · rw [if_neg (by omega), if_pos e, getD0 hpos]
    obtain ⟨n, e1, e2⟩ := f2 e
    rw [e1] at hc ⊢
    obtain ⟨cb, co, cc, rfl, hcb, s0⟩ := strs_one hc
    exact wrong_set hb ho ins.length cin b0 o0 _ c0 cb co cc ins[0] (ba n) (jbOf j vo vi _) w e hpos hH.1 h0 rfl hcb s0 (ari_in e2) rfl (by have := k0.2.1; omega) hb0 hc0 (sz hlf.2.1) (sz hr.2.1)
  · rw [if_neg (by omega), if_neg (by omega), if_pos (Or.inl e), getD0 hpos]
    exact wrong_proj hb ho ins.length cin b0 o0 _ c0 ins[0] (j.cols.map ba) (jbOf j vo vi vc) w e hpos hH.1 h0 (strsC_of hc hj.cl) rfl (by have := k0.2.1; omega) hb0 hc0
  · rw [if_neg (by omega), if_neg (by omega), if_pos (Or.inr e), getD0 hpos]
    exact wrong_sort hb ho ins.length cin b0 o0 _ c0 ins[0] (j.cols.map ba) (jbOf j vo vi vc) w e hpos hH.1 h0 (strsC_of hc hj.cl) rfl (by have := k0.2.1; omega) hb0 hc0
  · obtain ⟨a, b, ei⟩ := fi (Or.inl e)
    have h2 : ins.length = 2 := by rw [hl, ei]; rfl
    have hp1 : 1 < ins.length := by omega
    obtain ⟨u1, h1, b1, o1, c1, rfl, hcap1, hb1, hc1⟩ := hH.2 1 hp1
    have k1 := hok _ (List.getElem_mem hp1)
    rw [if_neg (by omega), if_neg (by omega), if_neg (by omega), if_pos e, getD0 hpos, getD1 hp1, h2]
    exact wrong_union hb ho cin b0 o0 c0 b1 o1 c1 ins[0] ins[1] (jbOf j vo vi vc) w e hH.1 h0 h1 (by have := k0.2.1; omega) (by have := k1.2.1; omega) hb0 hb1 hc0 hc1
  · rw [if_neg (by omega), if_neg (by omega), if_neg (by omega), if_neg (by omega), if_neg (by omega), if_neg (by omega), errV_0]
    exact wrong_dist none hb ho ins.length cin _ (jbOf j vo vi vc) w e hpos hH.1 h0
  · obtain ⟨a, b, ei⟩ := fi (Or.inr e)
    have h2 : ins.length = 2 := by rw [hl, ei]; rfl
    have hp1 : 1 < ins.length := by omega
    obtain ⟨u1, h1, b1, o1, c1, rfl, hcap1, hb1, hc1⟩ := hH.2 1 hp1
    have k1 := hok _ (List.getElem_mem hp1)
    obtain ⟨x, y, ec⟩ := f7 e
    rw [ec] at hc ⊢
    obtain ⟨cb, co, cc, rfl, hcb, s0, s1⟩ := strs_two hc
    rw [if_neg (by omega), if_neg (by omega), if_neg (by omega), if_neg (by omega), if_pos e, getD0 hpos, getD1 hp1, h2]
    refine wrong_join hb ho cin b0 o0 _ c0 b1 o1 _ c1 (jbOf j vo vi _) _ w e hH.1 h0 h1 (fun W hW => ?_)
    exact join_any b0 o0 _ c0 b1 o1 _ c1 cb co cc ins[0] ins[1] (ba x) (ba y) (jbOf j vo vi _) W rfl (by have := hW.size; omega) ((hW.cell (p := ⟨cb, co, none⟩) hcb).trans s0) ((hW.cell (p := ⟨cb, co + 1, none⟩) hcb).trans s1) rfl k0.1 (by have := k0.2.1; omega) (by have := hW.size; omega) (hc0.below hW hb0) rfl (by have := k1.2.1; omega) hcap1 (by have := hW.size; omega) (hc1.below hW hb1) (fun z hz => by
      rcases List.mem_append.1 hz with hz | hz
      · exact Nat.le_trans (k0.2.2 z hz) (by decide)
      · exact Nat.le_trans (k1.2.2 z hz) (by decide))
  · obtain ⟨x, y, ec, eo⟩ := f8 e
    rw [ec] at hc ⊢
    obtain ⟨cb, co, cc, rfl, hcb, s0, s1⟩ := strs_two hc
    rw [if_neg (by omega), if_neg (by omega), if_neg (by omega), if_neg (by omega), if_neg (by omega), if_pos e, getD0 hpos]
    refine wrong_grp hb ho ins.length cin b0 o0 _ c0 (jbOf j vo vi _) _ w e hpos hH.1 h0 (fun W hW => ?_)
    rcases eo with eo | eo
    · exact group_any b0 o0 _ c0 cb co cc ins[0] (ba x) (ba y) (jbOf j vo vi _) W rfl (show ba j.op = _ by rw [eo]; rfl) (by have := hW.size; omega) ((hW.cell (p := ⟨cb, co, none⟩) hcb).trans s0) ((hW.cell (p := ⟨cb, co + 1, none⟩) hcb).trans s1) rfl (by have := k0.2.1; omega) (by have := hW.size; omega) (hc0.below hW hb0)
    · exact group_max b0 o0 _ c0 cb co cc ins[0] (ba x) (ba y) (jbOf j vo vi _) W rfl (show ba j.op = _ by rw [eo]; rfl) (by have := hW.size; omega) ((hW.cell (p := ⟨cb, co, none⟩) hcb).trans s0) ((hW.cell (p := ⟨cb, co + 1, none⟩) hcb).trans s1) rfl (by have := k0.2.1; omega) (by have := hW.size; omega) (hc0.below hW hb0)
  · rw [if_pos (Or.inr e), getD0 hpos]
    exact wrong_test hb ho ins.length cin b0 o0 _ c0 ins[0] (jbOf j vo vi vc) w (Or.inr e) hpos hH.1 h0 rfl (by have := k0.2.1; omega) hb0 hc0 (sz hr.2.1)
theorem columns_job (j : FJob) (vo vi vc : Value) (ins : List Cs) (hb ho cin : Nat) (w : World) (hj : Fw.JobOK j) (hc : Fw.StrsR w vc j.cols) (hH : HeadsV w hb ho ins) (hok : ∀ c ∈ ins, CsOK c) (hl : ins.length = j.ins.length) (he : bodyE j ins = 0) :
    Calls Tryz.prog 72 #[.agg (jbOf j vo vi vc).cells, .slice (some ⟨hb, ho, none⟩) ins.length cin] w fun e w' => ∃ u, e = .returned u ∧ w'.ownsRow w.heap.size 48 2 u (colsC j ins).length (colCells (colsC j ins)) ∧ Below w.heap.size w w' := by
  obtain ⟨f2, f7, f8, fi, fo⟩ := hj.fm
  have hpos : 0 < ins.length := by
    rw [hl]
    by_cases e5 : j.code = 5
    · obtain ⟨a, b, e⟩ := fi (Or.inl e5); rw [e]; simp
    · by_cases e7 : j.code = 7
      · obtain ⟨a, b, e⟩ := fi (Or.inr e7); rw [e]; simp
      · obtain ⟨a, e⟩ := fo e5 e7; rw [e]; simp
  obtain ⟨u0, h0, b0, o0, c0, rfl, hcap0, hb0, hc0⟩ := hH.2 0 hpos
  have k0 := hok _ (List.getElem_mem hpos)
  rw [Nat.add_zero] at h0
  unfold bodyE at he
  unfold colsC
  have same : ∀ hcode, _ := fun hcode => columns_same hb ho ins.length cin b0 o0 _ c0 ins[0] (jbOf j vo vi vc) w hcode hpos hH.1 h0 rfl (by have := k0.2.1; omega) hb0 hc0
  rcases hj.code with e | e | e | e | e | e | e | e | e
  · rw [if_neg (by omega), if_neg (by omega), getD0 hpos]
    exact same (Or.inl e)
  · rw [if_neg (by omega), if_neg (by omega), getD0 hpos]
    exact same (Or.inr (Or.inr (Or.inl e)))
  · rw [if_neg (by omega), if_neg (by omega), if_pos (Or.inl e), getD0 hpos] at he
    rw [if_pos (Or.inl e), getD0 hpos]
    exact columns_proj hb ho ins.length cin b0 o0 _ c0 ins[0] (j.cols.map ba) (jbOf j vo vi vc) w e hpos hH.1 h0 (strsC_of hc hj.cl) he rfl (by have := k0.2.1; omega) hb0 hc0
  · rw [if_neg (by omega), if_neg (by omega), getD0 hpos]
    exact same (Or.inr (Or.inr (Or.inr (Or.inl e))))
  · rw [if_neg (by omega), if_neg (by omega), getD0 hpos]
    exact same (Or.inr (Or.inr (Or.inr (Or.inr (Or.inl e)))))
  · rw [if_neg (by omega), if_neg (by omega), getD0 hpos]
    exact same (Or.inr (Or.inr (Or.inr (Or.inr (Or.inr e)))))
  · obtain ⟨a, b, ei⟩ := fi (Or.inr e)
    have h2 : ins.length = 2 := by rw [hl, ei]; rfl
    have hp1 : 1 < ins.length := by omega
    obtain ⟨u1, h1, b1, o1, c1, rfl, hcap1, hb1, hc1⟩ := hH.2 1 hp1
    have k1 := hok _ (List.getElem_mem hp1)
    obtain ⟨x, y, ec⟩ := f7 e
    rw [ec] at hc he ⊢
    obtain ⟨cb, co, cc, rfl, hcb, s0, s1⟩ := strs_two hc
    rw [if_neg (by omega), if_neg (by omega), if_neg (by omega), if_neg (by omega), if_pos e, getD0 hpos, getD1 hp1] at he
    rw [if_neg (by omega), if_pos e, getD0 hpos, getD1 hp1, h2]
    obtain ⟨q, hq, -⟩ := join_ok he k0 k1
    have hq' : placeN ins[1] ([x, y].getD 1 []) = some q := hq
    rw [hq']
    exact columns_join hb ho cin b0 o0 c0 b1 o1 c1 cb co cc q ins[0] ins[1] (ba y) (jbOf j vo vi _) w e rfl hcb s1 hH.1 h0 h1 hq (by have := k0.2.1; omega) hb0 hc0 (by have := k1.2.1; omega) hcap1 hb1 hc1
  · obtain ⟨x, y, ec, eo⟩ := f8 e
    rw [ec] at he
    rw [if_neg (by omega), if_neg (by omega), if_neg (by omega), if_neg (by omega), if_neg (by omega), if_pos e, getD0 hpos] at he
    rw [if_pos (Or.inr e), getD0 hpos]
    exact columns_group hb ho ins.length cin b0 o0 _ c0 ins[0] (j.cols.map ba) (jbOf j vo vi vc) w e hpos hH.1 h0 (strsC_of hc hj.cl) (by rw [ec]; exact grp_list he) rfl (by have := k0.2.1; omega) hb0 hc0
  · rw [if_neg (by omega), if_neg (by omega), getD0 hpos]
    exact same (Or.inr (Or.inl e))
theorem strs_slice {w : World} {v : Value} {xs : List By} (h : Fw.StrsR w v xs) : ∃ a c, v = .slice a xs.length c := by
  rcases h with ⟨rfl, rfl⟩ | ⟨b, o, c, rfl, -⟩
  · exact ⟨none, 0, rfl⟩
  · exact ⟨_, c, rfl⟩
theorem sizes_job {j : FJob} (hj : Fw.JobOK j) : sizesI j.code = ((j.ins.length : Int), ((if j.code = 9 then 2 else 1 : Nat) : Int)) ∧ j.ins.length ≠ 0 := by
  obtain ⟨f2, f7, f8, fi, fo⟩ := hj.fm
  unfold sizesI
  rcases hj.code with e | e | e | e | e | e | e | e | e
  all_goals first
    | (obtain ⟨a, b, ei⟩ := fi (by omega); rw [ei, e]; exact ⟨rfl, by simp⟩)
    | (obtain ⟨a, ei⟩ := fo (by omega) (by omega); rw [ei, e]; exact ⟨rfl, by simp⟩)
/-- What Cols comes to. -/
def ColsR (j : FJob) (ins : List Cs) (w : World) (e : Ending) (w' : World) : Prop := Below w.heap.size w w' ∧
  ((colsE j ins ≠ 0 ∧ e = .returned (.tuple #[.slice none 0 0, .iface 62 (.int .i64 (colsE j ins))])) ∨
   (colsE j ins = 0 ∧ ∃ v us, e = .returned (.tuple #[v, .nilIface]) ∧ w'.ownsRow w.heap.size 45 1 v j.outs.length us ∧ HeldCols w' w.heap.size us (colsC j ins)))
theorem cols_job (j : FJob) (vo vi vc : Value) (ins : List Cs) (hb ho cin : Nat) (w : World) (hj : Fw.JobOK j) (hvo : Fw.StrsR w vo j.outs) (hc : Fw.StrsR w vc j.cols) (hH : HeadsV w hb ho ins) (hok : ∀ c ∈ ins, CsOK c) (hl : ins.length = j.ins.length) :
    Calls Tryz.prog 45 #[.agg (Fw.jobV j vo vi vc).toArray, .slice (some ⟨hb, ho, none⟩) ins.length cin] w fun e w' => ColsR j ins w e w' := by
  rw [← jb_cells]
  obtain ⟨oa, oc, hov⟩ := strs_slice hvo
  obtain ⟨hs, hn0⟩ := sizes_job hj
  by_cases hm : j.outs.length = (if j.code = 9 then 2 else 1)
  · have hE : colsE j ins = bodyE j ins := by unfold colsE; rw [if_pos hm]
    rw [← hm, ← hl] at hs
    by_cases h0 : bodyE j ins = 0
    · refine (cols_ok (some ⟨hb, ho, none⟩) oa cin oc (jbOf j vo vi vc) ins.length j.outs.length (colsC j ins) w hov hs (by omega) (by rw [hm]; split <;> omega) (fun W hW => ?_) (fun W hW => ?_)).mono ?_
      · have := wrong_job j vo vi vc ins hb ho cin W hj (hc.below hW) (hH.below hW) hok hl
        rw [h0, errV_0] at this
        exact this
      · exact columns_job j vo vi vc ins hb ho cin W hj (hc.below hW) (hH.below hW) hok hl h0
      · rintro e w' ⟨v, us, rfl, h1, h2, h3⟩
        exact ⟨h3, Or.inr ⟨by rw [hE]; exact h0, v, us, rfl, h1, h2⟩⟩
    · refine (cols_bad (some ⟨hb, ho, none⟩) oa cin oc (jbOf j vo vi vc) ins.length j.outs.length (bodyE j ins) w hov hs (by omega) h0 (fun W hW => wrong_job j vo vi vc ins hb ho cin W hj (hc.below hW) (hH.below hW) hok hl)).mono ?_
      rintro e w' ⟨rfl, h3⟩
      exact ⟨h3, Or.inl ⟨by rw [hE]; exact h0, by rw [hE, errV_ne h0]⟩⟩
  · have hE : colsE j ins = 1 := by unfold colsE; rw [if_neg hm]
    refine (cols_arg (some ⟨hb, ho, none⟩) oa ins.length cin j.outs.length oc (jbOf j vo vi vc) j.ins.length _ w hov hs (Or.inr (Or.inr hm))).mono ?_
    rintro e w' ⟨rfl, h3⟩
    exact ⟨h3, Or.inl ⟨by rw [hE]; decide, by rw [hE, errV_ne (by decide)]⟩⟩
end Go.Proofs.YtfifbnopgpffkaaGreatDoor.Pl
