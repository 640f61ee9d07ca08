import Derived.Test.YtlpomofaeeaneaaGreatDoorSetF
import Derived.Test.YtlpomofaeeaneaaGreatDoorSetE
set_option linter.unusedSimpArgs false
set_option linter.unusedVariables false
namespace Go.Proofs.YtlpomofaeeaneaaGreatDoor
open Go.RowKit

/-- A number, as a job's argument. -/
abbrev numA (n : Int) : Ag := (⟨#[]⟩, 1, n, ⟨#[]⟩)
/-- A column, as a job's argument. -/
abbrev colA (col : ByteArray) : Ag := (col, 0, 0, ⟨#[]⟩)

set_option maxHeartbeats 400000 in
theorem sets2_any (n : Int) (w : World) : Calls Tryz.prog 16 #[.int .i64 n] w fun e w' => e = .returned (aggA (numA n)) ∧ Below w.heap.size w w' := by
  go_enter Tryz.func16, Tryz.ntmps16
  go_wp2
  refine bodyPost_ret (v := aggA (numA n)) (by simp [results, Tryz.results16, go_sem]) rfl ⟨rfl, below_box _ _⟩

/-- What is wrong with the column (0: nothing). -/
def colErr (cs : List Cl) (col : ByteArray) : Int := match placeN cs col.data.toList with
  | none => 7
  | some i => if (cs[i]?.getD (⟨#[]⟩, 0)).2 = 1 ∧ kindA cs (colA col) = 1 then 0 else 13
theorem kind_num (cs : List Cl) (n : Int) (h : inNum n) : kindA cs (numA n) = 1 := by
  unfold kindA
  rw [if_pos rfl, if_pos]
  show rightValueB 1 n [] = true
  unfold rightValueB
  rw [if_pos rfl]
  simp [h.1, h.2]
theorem err_num (cs : List Cl) (op col : ByteArray) (n : Int) (h : inNum n) : setErr cs (jset 0 op col (numA n)) col.data.toList = colErr cs col := by
  unfold setErr colErr
  rw [show kindA cs (jset 0 op col (numA n)).right = 1 from kind_num cs n h]
  cases placeN cs col.data.toList with
  | none => rfl
  | some i => simp [jset]
theorem err_col (cs : List Cl) (op col : ByteArray) : setErr cs (jset 0 op col (colA col)) col.data.toList = colErr cs col := by
  unfold setErr colErr
  cases placeN cs col.data.toList with
  | none => rfl
  | some i => simp [jset]

/-- The column is there, one of numbers. -/
def colGood (cs : List Cl) (col : ByteArray) (i : Nat) : Prop := placeN cs col.data.toList = some i ∧ (∃ h : i < cs.length, cs[i].2 = 1) ∧ col.data.toList ≠ []
theorem col_good {cs : List Cl} {col : ByteArray} (h : colErr cs col = 0) : ∃ i, colGood cs col i := by
  unfold colErr at h
  obtain ⟨o, g⟩ : ∃ o, placeN cs col.data.toList = o := ⟨_, rfl⟩
  cases o with
  | none => rw [g] at h; cases h
  | some i =>
    rw [g] at h
    have hil := place_some g
    simp only [List.getElem?_eq_getElem hil, Option.getD_some] at h
    split at h
    · rename_i e
      refine ⟨i, g, ⟨hil, e.1⟩, fun h0 => ?_⟩
      have h1 := e.2
      unfold kindA at h1
      rw [if_pos h0] at h1
      have : rvB (colA col).2 = false := rfl
      rw [this] at h1
      simp at h1
    · cases h
theorem val_col {cs : List Cl} {col : ByteArray} {i : Nat} (h : colGood cs col i) (r : List Vl) (hr : i < r.length) : valIn cs r (colA col) = r[i] := by
  unfold valIn
  rw [if_neg h.2.2]
  show (match placeN cs col.data.toList with | some i => r[i]?.getD (0, 0, ⟨#[]⟩) | none => (0, 0, ⟨#[]⟩)) = _
  rw [h.1]
  show r[i]?.getD _ = _
  rw [List.getElem?_eq_getElem hr]; rfl
theorem setV_num {cs : List Cl} {col op : ByteArray} {i : Nat} (h : colGood cs col i) (r : List Vl) (hr : i < r.length) (n : Int) : setV cs (jset 0 op col (numA n)) r = reckI op.data.toList (numAt i r) n := by
  unfold setV
  rw [show (jset 0 op col (numA n)).left = colA col from rfl, val_col h r hr, numAt_in hr]
  rfl
theorem setV_col {cs : List Cl} {col op : ByteArray} {i : Nat} (h : colGood cs col i) (r : List Vl) (hr : i < r.length) : setV cs (jset 0 op col (colA col)) r = reckI op.data.toList (numAt i r) (numAt i r) := by
  unfold setV
  rw [show (jset 0 op col (colA col)).left = colA col from rfl, show (jset 0 op col (colA col)).right = colA col from rfl, val_col h r hr, numAt_in hr]
  rfl

theorem set_get {α : Type} (l : List α) (i : Nat) (h : i < l.length) (x : α) (hx : l[i] = x) : l.set i x = l := by
  subst hx
  exact List.set_getElem_self h
/-- A row of a table, at such a column. -/
theorem row_num {cs : List Cl} {rs : List (List Vl)} {col : ByteArray} {i : Nat} (hr : rightB cs rs = true) (h : colGood cs col i) (r : List Vl) (hm : r ∈ rs) : ∃ hi : i < r.length, r[i] = (1, numAt i r, ⟨#[]⟩) ∧ inNum (numAt i r) := by
  obtain ⟨h1, h2, h3⟩ := right_cols hr
  obtain ⟨l1, l2, l3, l4⟩ := right_len hr
  obtain ⟨-, ⟨hi, hk⟩, -⟩ := h
  have hrl := l4 r hm
  have hi' : i < r.length := by omega
  obtain ⟨k1, k2⟩ := row_at (h3 r hm) i hi' hi
  refine ⟨hi', ?_, ?_⟩
  · rw [numAt_in hi']; exact rv_int k2 (by rw [k1, hk])
  · rw [numAt_in hi']; exact rv_num k2
theorem row_set {r : List Vl} {cs : List Cl} (h : rowOK r cs = true) (i : Nat) (hc : i < cs.length) (hk : cs[i].2 = 1) (m : Int) (hm : inNum m) : rowOK (r.set i (1, m, ⟨#[]⟩)) cs = true := by
  induction r generalizing cs i with
  | nil => simpa using h
  | cons a r ih =>
    cases cs with
    | nil => simp at hc
    | cons c cs =>
      simp only [rowOK, Bool.and_eq_true, beq_iff_eq] at h
      cases i with
      | zero =>
        simp only [List.set_cons_zero, rowOK, Bool.and_eq_true, beq_iff_eq]
        refine ⟨by simpa using hk.symm, ?_, h.2.2⟩
        show rightValueB 1 m [] = true
        unfold rightValueB
        rw [if_pos rfl]
        simp [hm.1, hm.2]
      | succ i =>
        simp only [List.set_cons_succ, rowOK, Bool.and_eq_true, beq_iff_eq]
        exact ⟨h.1, h.2.1, ih h.2.2 i (by simpa using hc) (by simpa using hk)⟩
theorem right_map {cs : List Cl} {rs : List (List Vl)} (h : rightB cs rs = true) (f : List Vl → List Vl) (hf : ∀ r ∈ rs, rowOK (f r) cs = true) : rightB cs (rs.map f) = true := by
  obtain ⟨h1, h2, h3⟩ := right_cols h
  unfold rightB
  rw [h1]
  simp only [List.length_map, Bool.true_and, Bool.and_eq_true, decide_eq_true_eq, List.all_eq_true]
  refine ⟨h2, fun r hr => ?_⟩
  obtain ⟨q, hq, rfl⟩ := List.mem_map.1 hr
  exact hf q hq
theorem map_same {α : Type} (l : List α) (f : α → α) (h : ∀ x ∈ l, f x = x) : l.map f = l := by
  rw [List.map_congr_left h]; simp

/-- What is told of a table by such a job, where each number may be. -/
theorem no_num {cs : List Cl} {rs : List (List Vl)} {j : Jb} {col : ByteArray} (hr : rightB cs rs = true) (he : setErr cs j col.data.toList = 0) (hall : ∀ r ∈ rs, inNum (setV cs j r)) : setNo (cs, rs) j col.data.toList = 0 := by
  unfold setNo
  rw [if_neg (by simp [hr]), if_neg (by simp [he]), if_pos hall]
theorem no_bad {cs : List Cl} {rs : List (List Vl)} {j : Jb} {col : ByteArray} (h : rightB cs rs = false ∨ setErr cs j col.data.toList ≠ 0) : setNo (cs, rs) j col.data.toList ≠ 0 := by
  intro h0
  obtain ⟨h1, h2, h3⟩ := setNo_0 h0
  rcases h with h | h
  · rw [h] at h1; cases h1
  · exact h h2
theorem no_over {cs : List Cl} {rs : List (List Vl)} {j : Jb} {col : ByteArray} (h : ∃ r ∈ rs, ¬ inNum (setV cs j r)) : setNo (cs, rs) j col.data.toList ≠ 0 := by
  intro h0
  obtain ⟨h1, h2, h3⟩ := setNo_0 h0
  obtain ⟨r, hr, hn⟩ := h
  exact hn (h3 r hr)

/-- Times 1; 0 more. -/
theorem same_rows {cs : List Cl} {rs : List (List Vl)} {col op : ByteArray} {i : Nat} {n : Int} (hr : rightB cs rs = true) (h : colGood cs col i) (hop : ∀ a, reckI op.data.toList a n = a) :
    (∀ r ∈ rs, inNum (setV cs (jset 0 op col (numA n)) r)) ∧ rs.map (setR cs (jset 0 op col (numA n)) i) = rs := by
  refine ⟨fun r hm => ?_, map_same _ _ fun r hm => ?_⟩
  · obtain ⟨hi, h1, h2⟩ := row_num hr h r hm
    rw [setV_num h r hi, hop]; exact h2
  · obtain ⟨hi, h1, h2⟩ := row_num hr h r hm
    unfold setR
    rw [setV_num h r hi, hop]
    exact set_get _ _ hi _ h1
/-- Less itself. -/
theorem zero_rows {cs : List Cl} {rs : List (List Vl)} {col : ByteArray} {i : Nat} (hr : rightB cs rs = true) (h : colGood cs col i) :
    (∀ r ∈ rs, inNum (setV cs (jset 0 ⟨#[45]⟩ col (colA col)) r)) ∧ (rs.map (setR cs (jset 0 ⟨#[45]⟩ col (colA col)) i)).any (not0 i) = false := by
  have e : ∀ r ∈ rs, setV cs (jset 0 ⟨#[45]⟩ col (colA col)) r = 0 := fun r hm => by
    obtain ⟨hi, h1, h2⟩ := row_num hr h r hm
    rw [setV_col h r hi]
    show reckI [45] _ _ = 0
    unfold reckI
    rw [if_neg (by decide), if_pos rfl]; omega
  refine ⟨fun r hm => by rw [e r hm]; exact ⟨by decide, by decide⟩, ?_⟩
  rw [List.any_eq_false]
  intro q hq
  obtain ⟨r, hm, rfl⟩ := List.mem_map.1 hq
  obtain ⟨hi, h1, h2⟩ := row_num hr h r hm
  unfold setR
  rw [e r hm]
  simp [not0, numAt, hi]
/-- More by a number: too much, where one is beyond. -/
theorem more_bad {cs : List Cl} {rs : List (List Vl)} {col : ByteArray} {i : Nat} {n : Int} (hr : rightB cs rs = true) (h : colGood cs col i) (hn : 0 ≤ n) (hb : ∃ r ∈ rs, ¬ inNum (setV cs (jset 0 ⟨#[43]⟩ col (numA n)) r)) : rs.any (over i n) = true := by
  obtain ⟨r, hm, hb⟩ := hb
  obtain ⟨hi, h1, h2⟩ := row_num hr h r hm
  rw [setV_num h r hi] at hb
  rw [show reckI (⟨#[43]⟩ : ByteArray).data.toList (numAt i r) n = numAt i r + n from rfl] at hb
  rw [List.any_eq_true]
  refine ⟨r, hm, ?_⟩
  unfold over
  unfold inNum at hb h2
  rw [decide_eq_true_eq]
  omega
/-- More, and less by as much. -/
theorem back_rows {cs : List Cl} {rs : List (List Vl)} {col : ByteArray} {i : Nat} {n : Int} (hr : rightB cs rs = true) (h : colGood cs col i) (hok : ∀ r ∈ rs, inNum (setV cs (jset 0 ⟨#[43]⟩ col (numA n)) r)) :
    rightB cs (rs.map (setR cs (jset 0 ⟨#[43]⟩ col (numA n)) i)) = true ∧ (∀ r ∈ rs.map (setR cs (jset 0 ⟨#[43]⟩ col (numA n)) i), inNum (setV cs (jset 0 ⟨#[45]⟩ col (numA n)) r)) ∧ (rs.map (setR cs (jset 0 ⟨#[43]⟩ col (numA n)) i)).map (setR cs (jset 0 ⟨#[45]⟩ col (numA n)) i) = rs := by
  obtain ⟨g1, g2, g3⟩ := right_cols hr
  have hv : ∀ r ∈ rs, ∃ hi : i < r.length, r[i] = (1, numAt i r, ⟨#[]⟩) ∧ inNum (numAt i r) ∧ setV cs (jset 0 ⟨#[43]⟩ col (numA n)) r = numAt i r + n ∧ setV cs (jset 0 ⟨#[45]⟩ col (numA n)) (setR cs (jset 0 ⟨#[43]⟩ col (numA n)) i r) = numAt i r := fun r hm => by
    obtain ⟨hi, h1, h2⟩ := row_num hr h r hm
    have e1 : setV cs (jset 0 ⟨#[43]⟩ col (numA n)) r = numAt i r + n := by rw [setV_num h r hi]; rfl
    refine ⟨hi, h1, h2, e1, ?_⟩
    have hi' : i < (setR cs (jset 0 ⟨#[43]⟩ col (numA n)) i r).length := by unfold setR; simpa using hi
    rw [setV_num h _ hi']
    show reckI [45] _ _ = _
    unfold reckI
    rw [if_neg (by decide), if_pos rfl]
    have e2 : numAt i (setR cs (jset 0 ⟨#[43]⟩ col (numA n)) i r) = numAt i r + n := by
      unfold setR
      rw [e1]
      simp [numAt, hi]
    rw [e2]; omega
  refine ⟨right_map hr _ fun r hm => ?_, fun q hq => ?_, ?_⟩
  · exact row_set (g3 r hm) i h.2.1.1 h.2.1.2 _ (hok r hm)
  · obtain ⟨r, hm, rfl⟩ := List.mem_map.1 hq
    obtain ⟨hi, h1, h2, h3, h4⟩ := hv r hm
    rw [h4]; exact h2
  · rw [List.map_map]
    refine map_same _ _ fun r hm => ?_
    obtain ⟨hi, h1, h2, h3, h4⟩ := hv r hm
    show (setR cs (jset 0 ⟨#[43]⟩ col (numA n)) i r).set i (1, setV cs (jset 0 ⟨#[45]⟩ col (numA n)) (setR cs (jset 0 ⟨#[43]⟩ col (numA n)) i r), ⟨#[]⟩) = r
    rw [h4]
    show (r.set i (1, setV cs (jset 0 ⟨#[43]⟩ col (numA n)) r, ⟨#[]⟩)).set i (1, numAt i r, ⟨#[]⟩) = r
    rw [List.set_set]
    exact set_get _ _ hi _ h1
end Go.Proofs.YtlpomofaeeaneaaGreatDoor
