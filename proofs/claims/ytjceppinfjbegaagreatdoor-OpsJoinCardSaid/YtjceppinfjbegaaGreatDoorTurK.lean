import Derived.Test.YtjceppinfjbegaaGreatDoorTurI
import Derived.Test.YtjceppinfjbegaaGreatDoorOpsQ
set_option linter.unusedSimpArgs false
set_option linter.unusedVariables false
namespace Go.Proofs.YtjceppinfjbegaaGreatDoor
open Go.RowKit

theorem Jb.size (j : Jb) : j.cells.size = 15 := rfl
/-- A cell of a job, set. -/
theorem JobAt.put {w : World} {N : Nat} {j j' : Jb} (h : JobAt w N j) (k : Nat) (x : Value) (hk : k < 15) (he : j'.cells = j.cells.set! k x) : JobAt (w.setCell ⟨N, k, none⟩ x) N j' := by
  intro q v hq
  rw [he, Array.set!_eq_setIfInBounds, Array.getElem?_setIfInBounds] at hq
  by_cases e : k = q
  · subst e
    rw [if_pos rfl, if_pos (by rw [Jb.size]; exact hk)] at hq
    injection hq with hq
    subst hq
    have h0 := h k (j.cells[k]'(by rw [Jb.size]; exact hk)) (Array.getElem?_eq_getElem _)
    exact World.cell?_setCell_same _ _ _ h0
  · rw [if_neg e] at hq
    exact (World.cell?_setCell_other _ _ _ _ (by intro e'; simp at e'; try omega)).trans (h q v hq)
/-- A job's cells may be written. -/
def JobFree (w : World) (N : Nat) : Prop := ∀ k, w.frozen? ⟨N, k, none⟩ = false
theorem JobFree.below {w w' : World} {N B : Nat} (h : JobFree w N) (hb : Below B w w') (hN : N < B) : JobFree w' N := fun k => (hb.frozen (p := ⟨N, k, none⟩) hN).trans (h k)
theorem JobFree.put {w : World} {N M k : Nat} {x : Value} (h : JobFree w N) : JobFree (w.setCell ⟨M, k, none⟩ x) N := fun q => by rw [World.frozen?_setCell]; exact h q
theorem JobFree.new (w : World) (o : Obj) (cs : Array Value) (t : TypeId) (ho : o = .cells cs t) : JobFree (w.alloc o) w.heap.size := fun k => by subst ho; simp
/-- A table that lies somewhere. -/
def TabIs (w : World) (b : Nat) (cs : List Cl) (rs : List (List Vl)) : Prop := ∃ x y, w.cell? ⟨b, 0, none⟩ = some x ∧ w.cell? ⟨b, 1, none⟩ = some y ∧ b < w.heap.size ∧ ColsIs w x cs ∧ RowsIs w y rs
theorem TabIs.below {w w' : World} {b : Nat} {cs : List Cl} {rs : List (List Vl)} (h : TabIs w b cs rs) (hb : Below w.heap.size w w') : TabIs w' b cs rs := by
  obtain ⟨x, y, h0, h1, hl, hc, hr⟩ := h
  exact ⟨x, y, (hb.cell (p := ⟨b, 0, none⟩) hl).trans h0, (hb.cell (p := ⟨b, 1, none⟩) hl).trans h1, Nat.lt_of_lt_of_le hl hb.size, hc.below hb, hr.below hb⟩
theorem tab_laid {w2 : World} {B b : Nat} {x y : Value} {cs : List Cl} {rs : List (List Vl)} {t : TypeId} (hc : ColsNew w2 B x cs) (hr : RowsNew w2 B y rs) (hb : w2.heap.size = b) : TabIs (w2.alloc (.cells #[x, y] t)) b cs rs := by
  subst hb
  exact ⟨x, y, by simp, by simp, by simp, hc.is.below (below_box _ _), hr.is.below (below_box _ _)⟩
/-- What a job tells. -/
def OneRes (e : Ending) (w' : World) (B : Nat) (ok : Prop) (t : Tb) : Prop := (ok ∧ ∃ vc vr, e = .returned (.tuple #[.agg #[vc, vr], .bool true]) ∧ ColsNew w' B vc t.1 ∧ RowsNew w' B vr t.2) ∨ (¬ ok ∧ e = .returned (.tuple #[.agg #[.slice none 0 0, .slice none 0 0], .bool false]))
/-- What is told of one table by a filter (0: nothing is wrong). -/
def filtNo (j : Jb) (t : Tb) : Int := if rightB t.1 t.2 = false then 1 else testErr t.1 j
theorem filt_of (j : Jb) (t : Tb) (v : Value) (h : j.code = 1) : testNo (j.withOuts v) 1 t = filtNo j t := by
  unfold testNo filtNo
  split
  · rfl
  · rw [if_neg (by show ¬ (((1 : Nat) : Int) ≠ (sizesI j.code).2); rw [h]; decide)]
    rfl
theorem filt_0 {j : Jb} {t : Tb} (h : filtNo j t = 0) : rightB t.1 t.2 = true ∧ testErr t.1 j = 0 := by
  unfold filtNo at h
  split at h
  · cases h
  · rename_i h1; exact ⟨by simpa using h1, h⟩

theorem one_filt (j : Jb) (vc vr : Value) (cs : List Cl) (rs : List (List Vl)) (W : World) (H : Nat) (hH : W.heap.size = H) (hc : ColsIs W vc cs) (hr : RowsIs W vr rs) (hcode : j.code = 1) (hx : j.right.2.2.2.size ≤ maxLen) :
    Calls Tryz.prog 19 #[.agg j.cells, .slice (some ⟨H, 0, none⟩) 1 1] (W.alloc (.cells #[vc, vr] 36)) fun e w' => OneRes e w' W.heap.size (filtNo j (cs, rs) = 0) (cs, rs.filter (testB cs j)) ∧ Below (W.alloc (.cells #[vc, vr] 36)).heap.size (W.alloc (.cells #[vc, vr] 36)) w' := by
  have ht := tabs_new W vc vr (cs, rs) 36 H hH hc hr
  have hcd : 1 ≤ j.code ∧ j.code ≤ 8 := by rw [hcode]; exact ⟨by decide, by decide⟩
  by_cases hok : filtNo j (cs, rs) = 0
  · refine (one_ok H 0 1 1 j (cs, rs.filter (testB cs j)) _ hcd (fun W' H' hW' _ => ?_)).mono ?_
    · exact do_filter H 0 1 (cs, rs) (j.withOuts (.slice (some ⟨H', 0, none⟩) 1 2)) (some ⟨H', 0, none⟩) 1 2 W' hcode rfl (ht.below hW' (by simp; omega)) (by have := hW'.size; simp at this; omega) hx (by rw [filt_of j _ _ hcode]; exact hok)
    · rintro e w' ⟨x, y, rfl, h1, h2, h3⟩
      exact ⟨Or.inl ⟨hok, x, y, rfl, h1.mono (by simp), h2.mono (by simp)⟩, h3⟩
  · refine (one_bad H 0 1 1 j (filtNo j (cs, rs)) _ hcd hok (fun W' H' hW' _ => ?_)).mono ?_
    · have := do_test_bad H 0 1 (cs, rs) (j.withOuts (.slice (some ⟨H', 0, none⟩) 1 2)) (some ⟨H', 0, none⟩) 1 2 W' (Or.inl hcode) rfl (ht.below hW' (by simp; omega)) (by have := hW'.size; simp at this; omega) hx (by rw [filt_of j _ _ hcode]; exact hok)
      rw [filt_of j _ _ hcode] at this
      exact this
    · rintro e w' ⟨rfl, h3⟩
      exact ⟨Or.inr ⟨hok, rfl⟩, h3⟩
theorem one_proj (j : Jb) (ss : List ByteArray) (vc vr : Value) (cs : List Cl) (rs : List (List Vl)) (W : World) (H : Nat) (hH : W.heap.size = H) (hc : ColsIs W vc cs) (hr : RowsIs W vr rs) (hcode : j.code = 3) (hs : StrsC W j.cols ss) :
    Calls Tryz.prog 19 #[.agg j.cells, .slice (some ⟨H, 0, none⟩) 1 1] (W.alloc (.cells #[vc, vr] 36)) fun e w' => OneRes e w' W.heap.size (projNo (cs, rs) ss = 0) (pickC (placesN cs ss) cs, rs.map (pickV (placesN cs ss))) ∧ Below (W.alloc (.cells #[vc, vr] 36)).heap.size (W.alloc (.cells #[vc, vr] 36)) w' := by
  have ht := tabs_new W vc vr (cs, rs) 36 H hH hc hr
  have hcd : 1 ≤ j.code ∧ j.code ≤ 8 := by rw [hcode]; exact ⟨by decide, by decide⟩
  have hs' := hs.below (below_box W (.cells #[vc, vr] 36))
  by_cases hok : projNo (cs, rs) ss = 0
  · refine (one_ok H 0 1 1 j (pickC (placesN cs ss) cs, rs.map (pickV (placesN cs ss))) _ hcd (fun W' H' hW' _ => ?_)).mono ?_
    · exact do_proj_ok H 0 1 (cs, rs) (j.withOuts (.slice (some ⟨H', 0, none⟩) 1 2)) (some ⟨H', 0, none⟩) 2 ss W' hcode rfl (hs'.below hW') (ht.below hW' (by simp; omega)) (by have := hW'.size; simp at this; omega) hok
    · rintro e w' ⟨x, y, rfl, h1, h2, h3⟩
      exact ⟨Or.inl ⟨hok, x, y, rfl, h1.mono (by simp), h2.mono (by simp)⟩, h3⟩
  · refine (one_bad H 0 1 1 j (projNo (cs, rs) ss) _ hcd hok (fun W' H' hW' _ => ?_)).mono ?_
    · exact do_proj_bad H 0 1 (cs, rs) (j.withOuts (.slice (some ⟨H', 0, none⟩) 1 2)) (some ⟨H', 0, none⟩) 2 ss W' hcode rfl (hs'.below hW') (ht.below hW' (by simp; omega)) (by have := hW'.size; simp at this; omega) hok
    · rintro e w' ⟨rfl, h3⟩
      exact ⟨Or.inr ⟨hok, rfl⟩, h3⟩

theorem tabs_two (w : World) (vc vr vc' vr' : Value) (t u : Tb) (ty : TypeId) (H : Nat) (hH : w.heap.size = H) (hc : ColsIs w vc t.1) (hr : RowsIs w vr t.2) (hc' : ColsIs w vc' u.1) (hr' : RowsIs w vr' u.2) : TabsAt (w.alloc (.cells #[vc, vr, vc', vr'] ty)) H 0 [t, u] := by
  subst hH
  intro q hq
  have hq2 : q = 0 ∨ q = 1 := by simp at hq; omega
  rcases hq2 with rfl | rfl
  · exact ⟨vc, vr, by simp, by simp, hc.below (below_box _ _), hr.below (below_box _ _)⟩
  · exact ⟨vc', vr', by simp, by simp, hc'.below (below_box _ _), hr'.below (below_box _ _)⟩
/-- The job that sets one table behind the other. -/
def jU : Jb := ⟨0, 5, .slice none 0 0, .slice none 0 0, .slice none 0 0, ⟨#[]⟩, (⟨#[]⟩, 0, 0, ⟨#[]⟩), (⟨#[]⟩, 0, 0, ⟨#[]⟩), 0⟩
theorem one_uni (vc vr vc' vr' : Value) (t u : Tb) (W : World) (H : Nat) (hH : W.heap.size = H) (hc : ColsIs W vc t.1) (hr : RowsIs W vr t.2) (hc' : ColsIs W vc' u.1) (hr' : RowsIs W vr' u.2) :
    Calls Tryz.prog 19 #[.agg jU.cells, .slice (some ⟨H, 0, none⟩) 2 2] (W.alloc (.cells #[vc, vr, vc', vr'] 36)) fun e w' => OneRes e w' W.heap.size (uniNo t u = 0) (t.1, t.2 ++ u.2) ∧ Below (W.alloc (.cells #[vc, vr, vc', vr'] 36)).heap.size (W.alloc (.cells #[vc, vr, vc', vr'] 36)) w' := by
  have ht := tabs_two W vc vr vc' vr' t u 36 H hH hc hr hc' hr'
  have hcd : 1 ≤ jU.code ∧ jU.code ≤ 8 := ⟨by decide, by decide⟩
  by_cases hok : uniNo t u = 0
  · refine (one_ok H 0 2 2 jU (t.1, t.2 ++ u.2) _ hcd (fun W' H' hW' _ => ?_)).mono ?_
    · exact do_uni_ok H 2 t u (jU.withOuts (.slice (some ⟨H', 0, none⟩) 1 2)) (some ⟨H', 0, none⟩) 2 W' rfl rfl (ht.below hW' (by simp; omega)) (by have := hW'.size; simp at this; omega) hok
    · rintro e w' ⟨x, y, rfl, h1, h2, h3⟩
      exact ⟨Or.inl ⟨hok, x, y, rfl, h1.mono (by simp), h2.mono (by simp)⟩, h3⟩
  · refine (one_bad H 0 2 2 jU (uniNo t u) _ hcd hok (fun W' H' hW' _ => ?_)).mono ?_
    · exact do_uni_bad H 2 t u (jU.withOuts (.slice (some ⟨H', 0, none⟩) 1 2)) (some ⟨H', 0, none⟩) 2 W' rfl rfl (ht.below hW' (by simp; omega)) (by have := hW'.size; simp at this; omega) hok
    · rintro e w' ⟨rfl, h3⟩
      exact ⟨Or.inr ⟨hok, rfl⟩, h3⟩

theorem place_name {cs : List Cl} {nm : List UInt8} {i : Nat} (h : placeN cs nm = some i) : (cs[i]'(place_some h)).1.data.toList = nm := by
  have := (List.findIdx?_eq_some_iff_getElem.1 h).2.1
  simpa using this
theorem rowT_at {r : List Vl} {cs : List Cl} (h : rowOK r cs = true) (i : Nat) (hi : i < r.length) (hc : i < cs.length) : r[i].1 = cs[i].2 ∧ rvB r[i] = true := by
  induction r generalizing cs i with
  | nil => simp at hi
  | cons a r ih =>
    cases cs with
    | nil => simp at hc
    | cons c cs =>
      simp only [rowOK, Bool.and_eq_true, beq_iff_eq] at h
      cases i with
      | zero => exact ⟨by simpa using h.1, by simpa using h.2.1⟩
      | succ i =>
        simp only [List.getElem_cons_succ]
        exact ih h.2.2 i (by simpa using hi) (by simpa using hc)
theorem rowOK_map {α : Type} (l : List α) (f : α → Vl) (g : α → Cl) (h : ∀ k ∈ l, (f k).1 = (g k).2 ∧ rvB (f k) = true) : rowOK (l.map f) (l.map g) = true := by
  induction l with
  | nil => rfl
  | cons a l ih =>
    simp only [List.map_cons, rowOK, Bool.and_eq_true, beq_iff_eq]
    exact ⟨(h a (by simp)).1, (h a (by simp)).2, ih fun k hk => h k (by simp [hk])⟩

/-- The columns that are picked may be. -/
theorem colsOK_pick (cs : List Cl) (hcs : ∀ c ∈ cs, nameB c.1.data.toList = true ∧ kindB c.2 = true) : ∀ (ss seen : List ByteArray) (sc : List Cl), (∀ nm, calledB sc nm = inS seen nm) → lerr cs seen ss = 0 → colsOK sc (pickC (placesN cs ss) cs) = true
  | [], _, _, _, _ => rfl
  | s :: r, seen, sc, hseen, h => by
    rw [lerr] at h
    split at h
    · cases h
    · rename_i h1
      split at h
      · cases h
      · rename_i h2
        cases g : placeN cs s.data.toList with
        | none => exact absurd g h1
        | some k =>
          have hk := place_some g
          have hnm := place_name g
          have hp : pickC (placesN cs (s :: r)) cs = cs[k] :: pickC (placesN cs r) cs := by simp [pickC, placesN, g, List.getElem?_eq_getElem hk]
          rw [hp]
          have hc := hcs _ (List.getElem_mem hk)
          simp only [colsOK, Bool.and_eq_true]
          refine ⟨hc.1, hc.2, ?_, colsOK_pick cs hcs r (seen ++ [s]) (sc ++ [cs[k]]) (fun nm => ?_) h⟩
          · rw [hseen, hnm]
            simpa using h2
          · have := hseen nm
            simp only [calledB, inS, List.any_append, List.any_cons, List.any_nil, Bool.or_false] at this ⊢
            rw [this, hnm]

theorem pick_right {cs : List Cl} {rs : List (List Vl)} {ss : List ByteArray} (hr : rightB cs rs = true) (hl : listErr cs ss = 0) : rightB (pickC (placesN cs ss) cs) (rs.map (pickV (placesN cs ss))) = true := by
  obtain ⟨l0, l6, hall⟩ := listErr_0 hl
  obtain ⟨h1, h2, h3⟩ := right_cols hr
  obtain ⟨r1, r2, r3, r4⟩ := right_len hr
  have hlt := places_lt hall
  have hcs := colsOK_each cs [] (by simp [rightColsB] at h1; exact h1.2.2)
  have hle : lerr cs [] ss = 0 := by unfold listErr at hl; rw [if_neg (by omega)] at hl; exact hl
  have hlen : (pickC (placesN cs ss) cs).length = ss.length := by simp [pickC, placesN]
  unfold rightB rightColsB
  rw [colsOK_pick cs hcs ss [] [] (fun nm => rfl) hle, hlen]
  simp only [List.length_map, Bool.and_eq_true, decide_eq_true_eq, List.all_eq_true]
  refine ⟨⟨l0, l6, trivial⟩, h2, fun q hq => ?_⟩
  obtain ⟨r, hm, rfl⟩ := List.mem_map.1 hq
  refine rowOK_map _ _ _ fun k hk => ?_
  have hkc := hlt k hk
  have hkr : k < r.length := by rw [r4 r hm]; exact hkc
  rw [List.getElem?_eq_getElem hkr, List.getElem?_eq_getElem hkc]
  exact rowT_at (h3 r hm) k hkr hkc
theorem right_filter {cs : List Cl} {rs : List (List Vl)} (hr : rightB cs rs = true) (p : List Vl → Bool) : rightB cs (rs.filter p) = true := by
  obtain ⟨h1, h2, h3⟩ := right_cols hr
  unfold rightB
  rw [h1]
  simp only [Bool.true_and, Bool.and_eq_true, decide_eq_true_eq, List.all_eq_true]
  exact ⟨Nat.le_trans (List.length_filter_le _ _) h2, fun r hm => h3 r (List.mem_filter.1 hm).1⟩

/-- Where a picked column stands. -/
theorem pick_place {cs : List Cl} {ss : List ByteArray} (hall : ∀ s ∈ ss, ∃ k, placeN cs s.data.toList = some k) {nm : List UInt8} (h : inS ss nm = true) : ∃ q, ∃ hq : q < ss.length, placeN (pickC (placesN cs ss) cs) nm = some q ∧ ss[q].data.toList = nm := by
  have hname : ∀ q (hq : q < ss.length) (hq' : q < (pickC (placesN cs ss) cs).length), (pickC (placesN cs ss) cs)[q].1.data.toList = ss[q].data.toList := by
    intro q hq hq'
    obtain ⟨k, hk⟩ := hall _ (List.getElem_mem hq)
    have := place_name hk
    simp only [pickC, placesN, List.getElem_map, hk, Option.getD_some, List.getElem?_eq_getElem (place_some hk)]
    exact this
  have hlen : (pickC (placesN cs ss) cs).length = ss.length := by simp [pickC, placesN]
  rw [inS, List.any_eq_true] at h
  obtain ⟨s, hs, he⟩ := h
  obtain ⟨q0, hq0, rfl⟩ := List.mem_iff_getElem.1 hs
  obtain ⟨o, ho⟩ : ∃ o, placeN (pickC (placesN cs ss) cs) nm = o := ⟨_, rfl⟩
  cases o with
  | none =>
    have := List.findIdx?_eq_none_iff.1 ho _ (List.getElem_mem (show q0 < (pickC (placesN cs ss) cs).length by omega))
    rw [hname q0 hq0 (by omega)] at this
    rw [this] at he
    cases he
  | some q =>
    have hq := place_some ho
    refine ⟨q, by omega, ho, ?_⟩
    rw [← hname q (by omega) hq]
    exact place_name ho
theorem pick_at {cs : List Cl} {ss : List ByteArray} (hall : ∀ s ∈ ss, ∃ k, placeN cs s.data.toList = some k) {nm : List UInt8} (h : inS ss nm = true) : ∃ q i, placeN (pickC (placesN cs ss) cs) nm = some q ∧ placeN cs nm = some i ∧ (placesN cs ss)[q]? = some i := by
  obtain ⟨q, hq, h1, h2⟩ := pick_place hall h
  obtain ⟨k, hk⟩ := hall _ (List.getElem_mem hq)
  refine ⟨q, k, h1, by rw [← h2]; exact hk, ?_⟩
  rw [placesN, List.getElem?_map, List.getElem?_eq_getElem hq]
  simp [hk]
theorem pick_val {cs : List Cl} {ss : List ByteArray} (hall : ∀ s ∈ ss, ∃ k, placeN cs s.data.toList = some k) (x : Ag) (h : x.1.data.toList = [] ∨ inS ss x.1.data.toList = true) (r : List Vl) : valIn (pickC (placesN cs ss) cs) (pickV (placesN cs ss) r) x = valIn cs r x := by
  unfold valIn
  by_cases h0 : x.1.data.toList = []
  · rw [if_pos h0, if_pos h0]
  · rw [if_neg h0, if_neg h0]
    obtain ⟨q, i, h1, h2, h3⟩ := pick_at hall (h.resolve_left h0)
    rw [h1, h2]
    show (pickV (placesN cs ss) r)[q]?.getD _ = r[i]?.getD _
    rw [pickV, List.getElem?_map, h3]
    rfl
theorem pick_kind {cs : List Cl} {ss : List ByteArray} (hall : ∀ s ∈ ss, ∃ k, placeN cs s.data.toList = some k) (x : Ag) (h : x.1.data.toList = [] ∨ inS ss x.1.data.toList = true) : kindA (pickC (placesN cs ss) cs) x = kindA cs x := by
  unfold kindA
  by_cases h0 : x.1.data.toList = []
  · rw [if_pos h0, if_pos h0]
  · rw [if_neg h0, if_neg h0]
    obtain ⟨q, i, h1, h2, h3⟩ := pick_at hall (h.resolve_left h0)
    rw [h1, h2]
    have : ((pickC (placesN cs ss) cs)[q]?.getD (⟨#[]⟩, 0)) = (cs[i]?.getD (⟨#[]⟩, 0)) := by rw [pickC, List.getElem?_map, h3]; rfl
    show (if _ then ((pickC (placesN cs ss) cs)[q]?.getD (⟨#[]⟩, 0)).2 else 0) = _
    rw [this]
theorem pick_err {cs : List Cl} {ss : List ByteArray} (hall : ∀ s ∈ ss, ∃ k, placeN cs s.data.toList = some k) (j : Jb) (hL : inS ss j.left.1.data.toList = true) (hR : j.right.1.data.toList = [] ∨ inS ss j.right.1.data.toList = true) (he : testErr cs j = 0) : testErr (pickC (placesN cs ss) cs) j = 0 := by
  unfold testErr at he ⊢
  split at he
  · cases he
  · rename_i h0
    rw [if_neg h0]
    obtain ⟨q, i, h1, h2, h3⟩ := pick_at hall hL
    rw [h2] at he
    rw [h1]
    have : ((pickC (placesN cs ss) cs)[q]?.getD (⟨#[]⟩, 0)) = (cs[i]?.getD (⟨#[]⟩, 0)) := by rw [pickC, List.getElem?_map, h3]; rfl
    show (if kindA (pickC (placesN cs ss) cs) j.right = ((pickC (placesN cs ss) cs)[q]?.getD (⟨#[]⟩, 0)).2 then (0 : Int) else 13) = 0
    rw [this, pick_kind hall j.right hR]
    exact he
/-- Rows left out, then columns; columns, then rows. -/
theorem turn_rows {cs : List Cl} {ss : List ByteArray} (hall : ∀ s ∈ ss, ∃ k, placeN cs s.data.toList = some k) (j : Jb) (hL : inS ss j.left.1.data.toList = true) (hR : j.right.1.data.toList = [] ∨ inS ss j.right.1.data.toList = true) (rs : List (List Vl)) :
    (rs.map (pickV (placesN cs ss))).filter (testB (pickC (placesN cs ss) cs) j) = (rs.filter (testB cs j)).map (pickV (placesN cs ss)) := by
  rw [List.filter_map]
  congr 1
  refine List.filter_congr fun r _ => ?_
  show testB _ j (pickV _ r) = _
  unfold testB
  rw [pick_val hall j.left (Or.inr hL), pick_val hall j.right hR]

def Jb.filt (j : Jb) : Jb := { j with code := 1, cols := .slice none 0 0 }
def jPick (v : Value) : Jb := ⟨0, 3, .slice none 0 0, .slice none 0 0, v, ⟨#[]⟩, (⟨#[]⟩, 0, 0, ⟨#[]⟩), (⟨#[]⟩, 0, 0, ⟨#[]⟩), 0⟩
theorem right_append {cs : List Cl} {rs rs2 : List (List Vl)} (h : rightB cs rs = true) (h2 : rightB cs rs2 = true) (hl : rs.length + rs2.length ≤ 60) : rightB cs (rs ++ rs2) = true := by
  obtain ⟨a1, a2, a3⟩ := right_cols h
  obtain ⟨b1, b2, b3⟩ := right_cols h2
  unfold rightB
  rw [a1]
  simp only [Bool.true_and, Bool.and_eq_true, decide_eq_true_eq, List.all_eq_true, List.length_append]
  refine ⟨hl, fun r hm => ?_⟩
  rcases List.mem_append.1 hm with hm | hm
  · exact a3 r hm
  · exact b3 r hm
theorem rows_small {cs : List Cl} {rs : List (List Vl)} (h : rightB cs rs = true) : cs.length ≤ 60 ∧ rs.length ≤ 65 ∧ ∀ r ∈ rs, r.length ≤ 60 := by
  obtain ⟨h1, h2, h3, h4⟩ := right_len h
  exact ⟨by omega, by omega, fun r hr => by have := h4 r hr; omega⟩
/-- Of two tables together. -/
theorem tail_math {j : Jb} {cs cs2 : List Cl} {rs rs2 : List (List Vl)} (hF : filtNo j (cs, rs) = 0) (hU : uniNo (cs, rs) (cs2, rs2) = 0) :
    filtNo j (cs, rs ++ rs2) = 0 ∧ uniNo (cs, rs.filter (testB cs j)) (cs2, rs2.filter (testB cs2 j)) = 0 ∧ (rs ++ rs2).filter (testB cs j) = rs.filter (testB cs j) ++ rs2.filter (testB cs2 j) ∧ rightB cs (rs.filter (testB cs j) ++ rs2.filter (testB cs2 j)) = true := by
  obtain ⟨f1, f2⟩ := filt_0 hF
  obtain ⟨u1, u2, u3, u4⟩ := uniNo_0 hU
  simp only at f1 f2 u1 u2 u3 u4
  subst u3
  have hl : (rs.filter (testB cs j)).length + (rs2.filter (testB cs j)).length ≤ 60 := by
    have := List.length_filter_le (testB cs j) rs
    have := List.length_filter_le (testB cs j) rs2
    omega
  refine ⟨?_, ?_, List.filter_append _ _, right_append (right_filter u1 _) (right_filter u2 _) hl⟩
  · unfold filtNo
    rw [if_neg (by simp [right_append u1 u2 u4])]
    exact f2
  · unfold uniNo
    rw [if_neg (by simp [right_filter u1, right_filter u2]), if_neg (by simp), if_neg (by simpa using hl)]
/-- Of rows left out, and columns. -/
theorem inner_math {j : Jb} {cs : List Cl} {rs : List (List Vl)} {ss : List ByteArray} (hF : filtNo j (cs, rs) = 0) (hP : projNo (cs, rs) ss = 0) (hL : inS ss j.left.1.data.toList = true) (hR : j.right.1.data.toList = [] ∨ inS ss j.right.1.data.toList = true) :
    projNo (cs, rs.filter (testB cs j)) ss = 0 ∧ filtNo j (pickC (placesN cs ss) cs, rs.map (pickV (placesN cs ss))) = 0 ∧ (rs.map (pickV (placesN cs ss))).filter (testB (pickC (placesN cs ss) cs) j) = (rs.filter (testB cs j)).map (pickV (placesN cs ss)) ∧ rightB (pickC (placesN cs ss) cs) ((rs.filter (testB cs j)).map (pickV (placesN cs ss))) = true := by
  obtain ⟨f1, f2⟩ := filt_0 hF
  obtain ⟨p1, p2⟩ := projNo_0 hP
  obtain ⟨l0, l6, hall⟩ := listErr_0 p2
  refine ⟨?_, ?_, turn_rows hall j hL hR rs, pick_right (right_filter f1 _) p2⟩
  · unfold projNo
    rw [if_neg (by simp [right_filter f1])]
    exact p2
  · unfold filtNo
    rw [if_neg (by simp [pick_right f1 p2])]
    exact pick_err hall j hL hR f2
theorem proj_pos {cs : List Cl} {rs : List (List Vl)} {ss : List ByteArray} (hP : projNo (cs, rs) ss = 0) : 0 < ss.length ∧ ss.length ≤ 6 := by
  obtain ⟨p1, p2⟩ := projNo_0 hP
  obtain ⟨l0, l6, -⟩ := listErr_0 p2
  exact ⟨l0, l6⟩
/-- What is kept in place all along. -/
def Stt (w W : World) (b9 : Nat) (j : Jb) (cv vc vr vc2 vr2 : Value) : Prop := JobAt W w.heap.size j.filt ∧ JobAt W b9 (jPick cv) ∧ W.cell? ⟨w.heap.size + 1, 0, none⟩ = some vc ∧ W.cell? ⟨w.heap.size + 1, 1, none⟩ = some vr ∧ W.cell? ⟨w.heap.size + 1 + 1, 0, none⟩ = some vc2 ∧ W.cell? ⟨w.heap.size + 1 + 1, 1, none⟩ = some vr2 ∧ w.heap.size + 1 + 1 < W.heap.size ∧ b9 < W.heap.size ∧ Below w.heap.size w W
theorem Stt.below {w W W' : World} {b9 : Nat} {j : Jb} {cv vc vr vc2 vr2 : Value} (h : Stt w W b9 j cv vc vr vc2 vr2) (hb : Below W.heap.size W W') : Stt w W' b9 j cv vc vr vc2 vr2 := by
  obtain ⟨h1, h2, c0, c1, c2, c3, z1, z2, h3⟩ := h
  have hs := hb.size
  exact ⟨h1.below hb (by omega), h2.below hb z2, (hb.cell (p := ⟨w.heap.size + 1, 0, none⟩) (by show w.heap.size + 1 < _; omega)).trans c0, (hb.cell (p := ⟨w.heap.size + 1, 1, none⟩) (by show w.heap.size + 1 < _; omega)).trans c1, (hb.cell (p := ⟨w.heap.size + 1 + 1, 0, none⟩) z1).trans c2, (hb.cell (p := ⟨w.heap.size + 1 + 1, 1, none⟩) z1).trans c3, by omega, by omega, bel_then h3 hb⟩

end Go.Proofs.YtjceppinfjbegaaGreatDoor

