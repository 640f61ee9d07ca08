import Derived.Test.YtfifbnopgpffkaaGreatDoorColA
import Derived.Test.YtfifbnopgpffkaaGreatDoorFlwPl
import Derived.Test.YtfifbnopgpffkaaGreatDoorPlnB
set_option linter.unusedSimpArgs false
set_option linter.unusedVariables false
namespace Go.Proofs.YtfifbnopgpffkaaGreatDoor.Pl
open Go.RowKit
open Fw (By FJob Flw ba)

/-- A job as package ops sees it. -/
def jbOf (j : FJob) (vo vi vc : Value) : Jb := ⟨(j.at_ : Nat), j.code, vo, vi, vc, ba j.op, (ba j.left.1, j.left.2.1, j.left.2.2.1, ba j.left.2.2.2), (ba j.right.1, j.right.2.1, j.right.2.2.1, ba j.right.2.2.2), j.retry⟩
theorem jb_cells (j : FJob) (vo vi vc : Value) : (jbOf j vo vi vc).cells = (Fw.jobV j vo vi vc).toArray := rfl
abbrev jb0 (j : FJob) : Jb := jbOf j (.slice none 0 0) (.slice none 0 0) (.slice none 0 0)
/-- What is wrong with a job's columns (0: nothing), and what it makes of them. -/
noncomputable def bodyE (j : FJob) (ins : List Cs) : Int :=
  if j.code = 1 ∨ j.code = 9 then testErr (ins.getD 0 []) (jb0 j)
  else if j.code = 2 then setErr (ins.getD 0 []) (jb0 j) (j.cols.getD 0 [])
  else if j.code = 3 ∨ j.code = 4 then listErr (ins.getD 0 []) (j.cols.map ba)
  else if j.code = 5 then uniErr (ins.getD 0 []) (ins.getD 1 [])
  else if j.code = 7 then joinErr (ins.getD 0 []) (ins.getD 1 []) (ba (j.cols.getD 0 [])) (ba (j.cols.getD 1 []))
  else if j.code = 8 then grpErr (ins.getD 0 []) (ba (j.cols.getD 0 [])) (ba (j.cols.getD 1 []))
  else 0
noncomputable def colsE (j : FJob) (ins : List Cs) : Int := if j.outs.length = (if j.code = 9 then 2 else 1) then bodyE j ins else 1
noncomputable def colsC (j : FJob) (ins : List Cs) : Cs :=
  if j.code = 3 ∨ j.code = 8 then pickC (placesN (ins.getD 0 []) (j.cols.map ba)) (ins.getD 0 [])
  else if j.code = 7 then besL (ins.getD 0 []) (ins.getD 1 []) ((placeN (ins.getD 1 []) (j.cols.getD 1 [])).getD 0)
  else ins.getD 0 []
/-- Columns that may be. -/
def CsOK (c : Cs) : Prop := 1 ≤ c.length ∧ c.length ≤ 6 ∧ ∀ x ∈ c, x.1.size ≤ 1000
/-- Columns in memory. -/
def ColV (w : World) (u : Value) (cs : Cs) : Prop := ∃ b o c, u = .slice (some ⟨b, o, none⟩) cs.length c ∧ cs.length ≤ c ∧ b < w.heap.size ∧ ColsAt w b o cs
theorem ColV.below {w w' : World} {u : Value} {cs : Cs} (h : ColV w u cs) (hb : Below w.heap.size w w') : ColV w' u cs := by
  obtain ⟨b, o, c, h1, h2, h3, h4⟩ := h
  exact ⟨b, o, c, h1, h2, Nat.lt_of_lt_of_le h3 hb.size, h4.below hb h3⟩
theorem ColV.of {w : World} {B : Nat} {u : Value} {cs : Cs} (h : w.ownsRow B 48 2 u cs.length (colCells cs)) (hs : CsOK cs) : ColV w u cs := by
  obtain ⟨a, c, h1, h2, -, h4⟩ := cols_of_own h (fun x hx => Nat.le_trans (hs.2.2 x hx) (by decide))
  rcases h4 with h4 | ⟨b, o, rfl, h5, h6⟩
  · rw [h4] at hs; exact absurd hs.1 (by decide)
  · exact ⟨b, o, c, h1, h2, h5, h6⟩
theorem strsC_of {w : World} {v : Value} {xs : List By} (h : Fw.StrsR w v xs) (hm : xs.length ≤ 1000) : StrsC w v (xs.map ba) := by
  rcases h with ⟨rfl, rfl⟩ | ⟨b, o, c, rfl, h2, h3, h4⟩
  · exact ⟨none, 0, rfl, Nat.le_refl _, by decide, Or.inl rfl⟩
  · refine ⟨some ⟨b, o, none⟩, c, by rw [List.length_map], by rw [List.length_map]; exact h2, by rw [List.length_map]; exact Nat.le_trans hm (by decide), Or.inr ⟨b, o, rfl, h3, fun j hj => ?_⟩⟩
    rw [List.length_map] at hj
    rw [h4 j hj, List.getElem_map]
theorem strs_one {w : World} {v : Value} {a : By} (h : Fw.StrsR w v [a]) : ∃ b o c, v = .slice (some ⟨b, o, none⟩) 1 c ∧ b < w.heap.size ∧ w.cell? ⟨b, o, none⟩ = some (.string (ba a)) := by
  rcases h with ⟨-, h⟩ | ⟨b, o, c, rfl, h2, h3, h4⟩
  · cases h
  · exact ⟨b, o, c, rfl, h3, by simpa using h4 0 (by simp)⟩
theorem strs_two {w : World} {v : Value} {a a' : By} (h : Fw.StrsR w v [a, a']) : ∃ b o c, v = .slice (some ⟨b, o, none⟩) 2 c ∧ b < w.heap.size ∧ w.cell? ⟨b, o, none⟩ = some (.string (ba a)) ∧ w.cell? ⟨b, o + 1, none⟩ = some (.string (ba a')) := by
  rcases h with ⟨-, h⟩ | ⟨b, o, c, rfl, h2, h3, h4⟩
  · cases h
  · exact ⟨b, o, c, rfl, h3, by simpa using h4 0 (by simp), by simpa using h4 1 (by simp)⟩
theorem grp_list {cs : Cs} {x y : ByteArray} (h : grpErr cs x y = 0) : listErr cs [x, y] = 0 := by
  unfold grpErr at h
  split at h
  · rename_i p q hp hq
    have hpq : p ≠ q := by
      intro e
      subst e
      by_cases hk : kindAt cs p ≠ 1
      · rw [if_pos hk] at h; cases h
      · rw [if_neg hk, if_pos rfl] at h; cases h
    have hxy : ¬ x.data.toList = y.data.toList := by
      intro e
      rw [e] at hp
      exact hpq (Option.some.inj (hp.symm.trans hq))
    simp [listErr, lerr, hp, hq, inS, hxy]
    exact fun e => hxy (by rw [e])
  · cases h
theorem pick_ok {cs : Cs} {ss : List ByteArray} (h : listErr cs ss = 0) (hc : CsOK cs) : CsOK (pickC (placesN cs ss) cs) := by
  obtain ⟨l0, l6, hall⟩ := listErr_0 h
  refine ⟨by simp [pickC, placesN]; omega, by simp [pickC, placesN]; omega, fun x hx => ?_⟩
  obtain ⟨k, hk, rfl⟩ := List.mem_map.1 hx
  have := places_lt hall k hk
  rw [List.getElem?_eq_getElem this]
  exact hc.2.2 _ (List.getElem_mem this)
theorem join_ok {cs ds : Cs} {x y : ByteArray} (h : joinErr cs ds x y = 0) (hc : CsOK cs) (hd : CsOK ds) : ∃ q, placeN ds y.data.toList = some q ∧ CsOK (besL cs ds q) := by
  unfold joinErr at h
  split at h
  · rename_i p q hp hq
    refine ⟨q, hq, ?_⟩
    have h6 : (besL cs ds q).length ≤ 6 := by
      by_cases hk : kindAt cs p ≠ kindAt ds q
      · rw [if_pos hk] at h; cases h
      · rw [if_neg hk] at h
        by_cases ht : twiceB (besL cs ds q) = true
        · rw [if_pos ht] at h; cases h
        · rw [if_neg ht] at h
          by_cases h6 : 6 < (besL cs ds q).length
          · rw [if_pos h6] at h; cases h
          · omega
    refine ⟨?_, h6, fun z hz => ?_⟩
    · have := hc.1
      simp [besL]; omega
    · simp only [besL, List.mem_append] at hz
      rcases hz with (hz | hz) | hz
      · exact hc.2.2 z hz
      · exact hd.2.2 z (List.mem_of_mem_take hz)
      · exact hd.2.2 z (List.mem_of_mem_drop hz)
  · cases h
/-- What a job makes of columns that may be may be. -/
theorem colsC_ok {j : FJob} {ins : List Cs} (hj : Fw.JobOK j) (hl : ins.length = j.ins.length) (hi : ∀ c ∈ ins, CsOK c) (h : colsE j ins = 0) : CsOK (colsC j ins) := by
  obtain ⟨f2, f7, f8, fi, fo⟩ := hj.fm
  have hb : bodyE j ins = 0 := by
    unfold colsE at h
    by_cases ho : j.outs.length = (if j.code = 9 then 2 else 1)
    · rwa [if_pos ho] at h
    · rw [if_neg ho] at h; cases h
  have h0 : CsOK (ins.getD 0 []) := by
    have : 0 < ins.length := by
      rw [hl]
      by_cases e5 : j.code = 5
      · obtain ⟨a, b, e⟩ := fi (Or.inl e5); rw [e]; simp
      · by_cases e7 : j.code = 7
        · obtain ⟨a, b, e⟩ := fi (Or.inr e7); rw [e]; simp
        · obtain ⟨a, e⟩ := fo e5 e7; rw [e]; simp
    rw [List.getD_eq_getElem?_getD, List.getElem?_eq_getElem this]
    exact hi _ (List.getElem_mem this)
  unfold bodyE at hb
  unfold colsC
  rcases hj.code with e | e | e | e | e | e | e | e | e
  · simp [e] at hb ⊢; simpa using h0
  · simp [e] at hb ⊢; simpa using h0
  · simp only [e] at hb ⊢
    simp at hb ⊢
    exact pick_ok hb (by simpa using h0)
  · simp [e] at hb ⊢; simpa using h0
  · simp [e] at hb ⊢; simpa using h0
  · simp [e] at hb ⊢; simpa using h0
  · have h1 : CsOK (ins.getD 1 []) := by
      obtain ⟨a, b, e2⟩ := fi (Or.inr e)
      have : 1 < ins.length := by rw [hl, e2]; simp
      rw [List.getD_eq_getElem?_getD, List.getElem?_eq_getElem this]
      exact hi _ (List.getElem_mem this)
    rw [if_neg (by omega), if_neg (by omega), if_neg (by omega), if_neg (by omega), if_pos e] at hb
    rw [if_neg (by omega), if_pos e]
    obtain ⟨q, hq, hok⟩ := join_ok hb h0 h1
    have hq' : placeN (ins.getD 1 []) (j.cols.getD 1 []) = some q := hq
    rw [hq']
    exact hok
  · rw [if_neg (by omega), if_neg (by omega), if_neg (by omega), if_neg (by omega), if_neg (by omega), if_pos e] at hb
    rw [if_pos (Or.inr e)]
    obtain ⟨a, b, e2, -⟩ := f8 e
    rw [e2] at hb ⊢
    exact pick_ok (grp_list hb) h0
  · simp [e] at hb ⊢; simpa using h0
end Go.Proofs.YtfifbnopgpffkaaGreatDoor.Pl
