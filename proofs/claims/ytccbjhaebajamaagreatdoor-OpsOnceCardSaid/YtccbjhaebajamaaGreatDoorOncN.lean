import Derived.Test.YtccbjhaebajamaaGreatDoorOncM
set_option linter.unusedSimpArgs false
set_option linter.unusedVariables false
namespace Go.Proofs.YtccbjhaebajamaaGreatDoor
open Go.RowKit

theorem lerr_all (cs : List Cl) : ∀ (q p : List Cl), (∀ c ∈ q, c ∈ cs) → colsOK p q = true → lerr cs (p.map (·.1)) (q.map (·.1)) = 0
  | [], _, _, _ => rfl
  | c :: q, p, hin, h => by
    simp only [colsOK, Bool.and_eq_true] at h
    rw [List.map_cons, lerr]
    have hf : placeN cs c.1.data.toList ≠ none := by
      intro e
      have := List.findIdx?_eq_none_iff.1 e c (hin c (by simp))
      simp at this
    rw [if_neg hf]
    have hs : inS (p.map (·.1)) c.1.data.toList = false := by
      have h3 := h.2.2.1
      simp only [calledB, Bool.not_eq_true'] at h3
      rw [inS, List.any_map]
      exact h3
    rw [if_neg (by rw [hs]; decide)]
    have := lerr_all cs q (p ++ [c]) (fun x hx => hin x (by simp [hx])) h.2.2.2
    simpa using this
/-- A column stands where it stands. -/
theorem place_own : ∀ (q p : List Cl), colsOK p q = true → ∀ k (hk : k < q.length), placeN (p ++ q) q[k].1.data.toList = some (p.length + k)
  | [], _, _, k, hk => absurd hk (by simp)
  | c :: q, p, h, k, hk => by
    have h' := h
    simp only [colsOK, Bool.and_eq_true] at h
    cases k with
    | zero =>
      have h3 := h.2.2.1
      simp only [calledB, Bool.not_eq_true', List.any_eq_false] at h3
      refine place_found (by simp) (by simp) fun j hj => ?_
      have hj' : j < p.length := by simpa using hj
      rw [List.getElem_append_left hj']
      have := h3 p[j] (List.getElem_mem hj')
      simpa using this
    | succ k =>
      have := place_own q (p ++ [c]) h.2.2.2 k (by simpa using hk)
      simp only [List.append_assoc, List.singleton_append, List.length_append, List.length_cons, List.length_nil] at this
      simp only [List.getElem_cons_succ]
      rw [this]
      congr 1
      omega
theorem places_all {cs : List Cl} (h : rightColsB cs = true) : listErr cs (cs.map (·.1)) = 0 ∧ placesN cs (cs.map (·.1)) = List.range cs.length := by
  simp only [rightColsB, Bool.and_eq_true, decide_eq_true_eq] at h
  obtain ⟨h1, h2, h3⟩ := h
  constructor
  · unfold listErr
    rw [if_neg (by rw [List.length_map]; omega)]
    exact lerr_all cs cs [] (fun c hc => hc) h3
  · refine List.ext_getElem (by simp [placesN]) fun k hk hk' => ?_
    have hk2 : k < cs.length := by simpa using hk'
    have := place_own cs [] h3 k hk2
    simp only [List.nil_append, List.length_nil, Nat.zero_add] at this
    simp [placesN, this]
theorem pick_all_cols (cs : List Cl) : pickC (List.range cs.length) cs = cs := by
  refine List.ext_getElem (by simp [pickC]) fun k hk hk' => ?_
  simp [pickC, List.getElem?_eq_getElem hk']
theorem pick_all_row (r : List Vl) : pickV (List.range r.length) r = r := by
  refine List.ext_getElem (by simp [pickV]) fun k hk hk' => ?_
  simp [pickV, List.getElem?_eq_getElem hk']
/-- All columns, picked, are the table. -/
theorem all_picked {cs : List Cl} {rs : List (List Vl)} (h : rightB cs rs = true) : projNo (cs, rs) (cs.map (·.1)) = 0 ∧ pickC (placesN cs (cs.map (·.1))) cs = cs ∧ rs.map (pickV (placesN cs (cs.map (·.1)))) = rs := by
  obtain ⟨h1, h2, h3⟩ := right_cols h
  obtain ⟨l1, l2, l3, l4⟩ := right_len h
  obtain ⟨p1, p2⟩ := places_all h1
  refine ⟨?_, by rw [p2]; exact pick_all_cols cs, ?_⟩
  · unfold projNo
    rw [if_neg (by simp [h])]
    exact p1
  · rw [p2]
    have : ∀ r ∈ rs, pickV (List.range cs.length) r = r := fun r hr => by rw [← l4 r hr]; exact pick_all_row r
    rw [List.map_congr_left this]
    simp
end Go.Proofs.YtccbjhaebajamaaGreatDoor
