import Derived.Test.YtkdbidcofamkcaaGreatDoorMathB
set_option linter.unusedSimpArgs false
set_option linter.unusedVariables false
namespace Go.Proofs.YtkdbidcofamkcaaGreatDoor
open Go.RowKit

def unvl (v : Vl) : V3 := (v.1, v.2.1, v.2.2.data.toList)
def tx (v : V3) : List UInt8 := valueL v.1 v.2.1 v.2.2
theorem vl_unvl (v : Vl) : vl (unvl v) = v := by
  obtain ⟨a, b, c⟩ := v
  simp only [vl, unvl]
theorem tx_unvl (v : Vl) : tx (unvl v) = valueL v.1 v.2.1 v.2.2.data.toList := rfl
theorem rowL_vl (r : List V3) : rowL (r.map vl) = lineL (r.map tx) := by
  unfold rowL; rw [List.map_map]; rfl

theorem parseV_tx {l : List UInt8} {v : V3} (h : parseV l = some v) : tx v = l ∧ rightValueB v.1 v.2.1 v.2.2 = true := by
  unfold parseV at h
  split at h
  · rename_i h'
    injection h with h
    subst h
    exact ⟨h'.2, h'.1⟩
  · exact absurd h (by simp)
theorem tx_ne (v : V3) : tx v ≠ [] := by
  unfold tx valueL
  split
  · obtain ⟨c, r, hc, -⟩ := itoa_head v.2.1
    rw [hc]; simp
  · simp
theorem cutV_cases : ∀ (l : List UInt8) (q : Bool), l = (cutV q l).1 ++ (if (cutV q l).2.2 then 32 :: (cutV q l).2.1 else []) ∧ ((cutV q l).2.2 = false → (cutV q l).2.1 = [])
  | [], q => by simp [cutV]
  | c :: r, q => by
    have h1 := cutV_cases r q
    have h2 := cutV_cases r (!q)
    unfold cutV
    split
    · exact ⟨by simp only [List.cons_append]; rw [← h2.1], h2.2⟩
    · split
      · rename_i e; simp [e.1]
      · exact ⟨by simp only [List.cons_append]; rw [← h1.1], h1.2⟩

theorem join_ne (x : List UInt8) (r : List (List UInt8)) (h : x ≠ []) : Lib.join (x :: r) [32] ≠ [] := by
  rw [Lib.join_cons]
  intro e
  exact h (List.append_eq_nil_iff.1 e).1
/-- A row that is read is written so. -/
theorem row_back : ∀ (cs : List Cl) (rest : List UInt8) (more : Bool) (vs : List V3), cs ≠ [] → rowRead cs rest more = some vs → Lib.join (vs.map tx) [32] = rest ∧ rowOK (vs.map vl) cs = true ∧ vs ≠ []
  | [], _, _, _, h, _ => absurd rfl h
  | c :: q, rest, more, vs, _, h => by
    unfold rowRead at h
    cases hp : parseV (cutV false rest).1 with
    | none => rw [hp] at h; simp at h
    | some v =>
      rw [hp] at h
      simp only at h
      split at h
      · rename_i hk
        obtain ⟨vs', hv, rfl⟩ := Option.map_eq_some_iff.1 h
        have ht := parseV_tx hp
        have hc := cutV_cases rest false
        have hrv : rvB (vl v) = true := ht.2
        cases q with
        | nil =>
          simp only [rowRead] at hv
          split at hv
          · simp at hv
          · rename_i hm
            injection hv with hv
            subst hv
            have hm' : (cutV false rest).2.2 = false := by simpa using hm
            rw [hm'] at hc
            refine ⟨?_, ?_, by simp⟩
            · simp only [List.map_cons, List.map_nil]
              rw [Lib.join_one, ht.1]
              have := hc.1
              simp at this
              exact this.symm
            · have e : rowOK ([v].map vl) [c] = ((vl v).1 == c.2 && (rvB (vl v) && true)) := rfl
              rw [e, hrv]
              have hk' : (vl v).1 = c.2 := hk
              simp [hk']
        | cons d q' =>
          have ih := row_back (d :: q') _ _ vs' (by simp) hv
          cases vs' with
          | nil => exact absurd rfl ih.2.2
          | cons v2 vs2 =>
            have hm : (cutV false rest).2.2 = true := by
              cases hm : (cutV false rest).2.2 with
              | true => rfl
              | false =>
                have h0 := hc.2 hm
                rw [h0] at ih
                exact absurd ih.1 (join_ne _ _ (tx_ne v2))
            rw [hm] at hc
            refine ⟨?_, ?_, by simp⟩
            · simp only [List.map_cons] at ih ⊢
              rw [join_two, ih.1, ht.1]
              have := hc.1
              simp only [if_true] at this
              exact this.symm
            · have e : rowOK ((v :: v2 :: vs2).map vl) (c :: d :: q') = ((vl v).1 == c.2 && (rvB (vl v) && rowOK ((v2 :: vs2).map vl) (d :: q'))) := rfl
              rw [e, hrv, ih.2.1]
              have hk' : (vl v).1 = c.2 := hk
              simp [hk']
      · simp at h

theorem lines_back (cs : List Cl) (hcs : cs ≠ []) : ∀ (f : Nat) (acc : List (List V3)) (rest : List UInt8) (en : Bool) (rs : List (List V3)), acc.length ≤ 60 → linesRead cs f acc rest en = .ok rs →
    en = true ∧ ∃ new, rs = acc ++ new ∧ rest = new.flatMap (fun r => rowL (r.map vl)) ∧ (∀ r ∈ new, rowOK (r.map vl) cs = true) ∧ rs.length ≤ 60
  | 0, _, _, _, _, _, h => by simp [linesRead] at h
  | f + 1, acc, rest, en, rs, hl, h => by
    unfold linesRead at h
    split at h
    · rename_i hc
      cases hr : rowRead cs (Lib.cut rest [10]).1 false with
      | none => rw [hr] at h; simp at h
      | some r =>
        rw [hr] at h
        simp only at h
        split at h
        · simp at h
        · rename_i h60
          obtain ⟨he, new, h1, h2, h3, h4⟩ := lines_back cs hcs f _ _ _ rs (by simp; omega) h
          refine ⟨hc.1, r :: new, by rw [h1]; simp, ?_, ?_, h4⟩
          · have hb := row_back cs _ _ r hcs hr
            rcases cut_cases 10 rest with ⟨_, hx⟩ | ⟨a, b, h5, _, hx⟩
            · rw [hx] at he; simp at he
            · rw [hx] at h2 hb
              rw [List.flatMap_cons, ← h2, rowL_vl, lineL, hb.1, h5]
              simp
          · intro x hx
            rcases List.mem_cons.1 hx with rfl | hx
            · exact (row_back cs _ _ _ hcs hr).2.1
            · exact h3 x hx
    · rename_i hc
      split at h
      · rename_i he
        injection h with h
        have hre : rest = [] := by
          by_cases e : rest = []
          · exact e
          · exact absurd ⟨he, e⟩ hc
        refine ⟨he, [], by simp [h], by simp [hre], by simp, by rw [← h]; exact hl⟩
      · simp at h

/-- WHAT WAS READ IS WRITTEN JUST SO, AND MAY BE. -/
theorem read_write {l : List UInt8} {cs : List Cl} {rs : List (List V3)} (h : parseT l = .ok (cs, rs)) : rightB cs (rs.map (·.map vl)) = true ∧ printL cs (rs.map (·.map vl)) = l := by
  obtain ⟨⟨hd, r, en⟩, hx⟩ : ∃ x, Lib.cut l [10] = x := ⟨_, rfl⟩
  rw [parseT_of hx] at h
  split at h
  · rename_i hc
    have hne : colsOf ⟨hd.toArray⟩ ≠ [] := by
      intro e
      have := rightCols_len hc
      rw [e] at this
      simp at this
    cases hl : linesRead (colsOf ⟨hd.toArray⟩) (l.length + 1) [] r en with
    | error x => rw [hl] at h; simp at h
    | ok rs' =>
      rw [hl] at h
      simp only [Except.ok.injEq, Prod.mk.injEq] at h
      obtain ⟨rfl, rfl⟩ := h
      obtain ⟨he, new, h1, h2, h3, h4⟩ := lines_back _ hne _ [] r en rs' (by simp) hl
      simp only [List.nil_append] at h1
      subst h1
      refine ⟨?_, ?_⟩
      · simp only [rightB, hc, Bool.true_and, Bool.and_eq_true, decide_eq_true_eq, List.length_map, List.all_eq_true]
        refine ⟨h4, fun x hx => ?_⟩
        rw [List.mem_map] at hx
        obtain ⟨y, hy, rfl⟩ := hx
        exact h3 y hy
      · rcases cut_cases 10 l with ⟨_, hy⟩ | ⟨a, b, h5, _, hy⟩
        · rw [hy] at hx
          simp only [Prod.mk.injEq] at hx
          rw [← hx.2.2] at he
          simp at he
        · rw [hy] at hx
          simp only [Prod.mk.injEq] at hx
          obtain ⟨rfl, rfl, -⟩ := hx
          have hb := head_back ⟨a.toArray⟩ hc
          rw [show (ByteArray.mk a.toArray).data.toList = a from rfl] at hb
          unfold printL
          rw [hb, List.flatMap_map, ← h2, h5]
          simp
  · simp at h
end Go.Proofs.YtkdbidcofamkcaaGreatDoor
