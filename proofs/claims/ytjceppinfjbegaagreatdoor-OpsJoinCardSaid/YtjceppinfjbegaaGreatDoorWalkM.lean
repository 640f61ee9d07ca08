import Derived.Test.YtjceppinfjbegaaGreatDoorWalkL
set_option linter.unusedSimpArgs false
set_option linter.unusedVariables false
namespace Go.Proofs.YtjceppinfjbegaaGreatDoor
open Go.RowKit

def badV (N : Nat) : Value := .tuple #[.agg #[.slice none 0 0, .slice none 0 0], .iface 150 (.pointer (some ⟨N, 0, none⟩))]

set_option maxHeartbeats 400000 in
theorem wrong_any (e p : Int) (w : World) :
    Calls Tryz.prog 96 #[.int .i64 e, .int .i64 p] w fun en w' => en = .returned (.tuple #[.agg #[.slice none 0 0, .slice none 0 0], .iface 150 (.pointer (some ⟨w.heap.size + 1, 0, none⟩))]) ∧ w.heap.size + 1 < w'.heap.size ∧ w'.cell? ⟨w.heap.size + 1, 0, none⟩ = some (.int .i64 e) ∧ w'.cell? ⟨w.heap.size + 1, 1, none⟩ = some (.int .i64 p) ∧ Below w.heap.size w w' := by
  go_enter Tryz.func96, Tryz.ntmps96
  go_wp2
  refine bodyPost_ret (v := .tuple #[.agg #[.slice none 0 0, .slice none 0 0], .iface 150 (.pointer (some ⟨w.heap.size + 1, 0, none⟩))]) (by simp [results, Tryz.results96, go_sem]) rfl ⟨rfl, by simp, by simp, by simp, ?_⟩
  exact bel_box (below_box _ _) _

/-- What a text is read as, line by line. -/
def linesRead (cs : List Cl) : Nat → List (List V3) → List UInt8 → Bool → Except (Int × Nat) (List (List V3))
  | 0, _, _, _ => .error (0, 0)
  | f + 1, acc, rest, ended =>
    if ended = true ∧ rest ≠ [] then
      match rowRead cs (Lib.cut rest [10]).1 false with
      | none => .error (3, 1 + acc.length)
      | some r => if acc.length = 60 then .error (4, 1 + acc.length) else linesRead cs f (acc ++ [r]) (Lib.cut rest [10]).2.1 (Lib.cut rest [10]).2.2
    else if ended = true then .ok acc else .error (3, 1 + acc.length)
def headOf (l : List UInt8) : List Cl := colsOf ⟨(Lib.cut l [10]).1.toArray⟩
def parseT (l : List UInt8) : Except (Int × Nat) (List Cl × List (List V3)) :=
  if rightColsB (headOf l) = true then
    match linesRead (headOf l) (l.length + 1) [] (Lib.cut l [10]).2.1 (Lib.cut l [10]).2.2 with
    | .ok rs => .ok (headOf l, rs)
    | .error x => .error x
  else .error (3, 0)

/-- Rows of values that the call itself has made. -/
def RowsOwn (w : World) (B : Nat) (us : List Value) (rs : List (List V3)) : Prop :=
  us.length = rs.length ∧ ∀ (j : Nat) (h : j < us.length) (h' : j < rs.length), w.ownsRow B 24 3 us[j] rs[j].length (valCells (rs[j].map vl))

/-- What is told of a text. -/
def parseEnd (e : Ending) (w' : World) : Except (Int × Nat) (List Cl × List (List V3)) → Prop
  | .ok (cs, rs) => ∃ vc vr, e = .returned (.tuple #[.agg #[vc, vr], .nilIface]) ∧ ColsIs w' vc cs ∧ RowsIs w' vr (rs.map (·.map vl))
  | .error (x, p) => ∃ N, e = .returned (.tuple #[.agg #[.slice none 0 0, .slice none 0 0], .iface 150 (.pointer (some ⟨N, 0, none⟩))]) ∧ N < w'.heap.size ∧ w'.cell? ⟨N, 0, none⟩ = some (.int .i64 x) ∧ w'.cell? ⟨N, 1, none⟩ = some (.int .i64 (p : Int))

theorem cell_far (w : World) (R o N j : Nat) (v : Value) (h : N ≠ R) : (w.setCell ⟨R, o, none⟩ v).cell? ⟨N, j, none⟩ = w.cell? ⟨N, j, none⟩ := World.cell?_of_block (Below.heap_setCell _ _ _ _ h)

theorem bad_end {w3 : World} {R N : Nat} {x : Int} {p : Nat} {u v : Value} (hN : N < w3.heap.size) (hR : R < N) (h0 : w3.cell? ⟨N, 0, none⟩ = some (.int .i64 x)) (h1 : w3.cell? ⟨N, 1, none⟩ = some (.int .i64 (p : Int))) :
    parseEnd (.returned (.tuple #[.agg #[.slice none 0 0, .slice none 0 0], .iface 150 (.pointer (some ⟨N, 0, none⟩))])) ((w3.setCell ⟨R, 0, none⟩ u).setCell ⟨R, 1, none⟩ v) (.error (x, p)) := by
  refine ⟨N, rfl, by simpa [World.setCell] using hN, ?_, ?_⟩
  · rw [cell_far _ _ _ _ _ _ (by omega), cell_far _ _ _ _ _ _ (by omega)]; exact h0
  · rw [cell_far _ _ _ _ _ _ (by omega), cell_far _ _ _ _ _ _ (by omega)]; exact h1

/-- What lies where, while rows are read: the table itself, and its rows. -/
def TabMem (wr W : World) (tb : Nat) (vc vr : Value) (us : List Value) (acc : List (List V3)) : Prop :=
  tb < wr.heap.size ∧ wr.cell? ⟨tb, 0, none⟩ = some vc ∧ wr.cell? ⟨tb, 1, none⟩ = some vr ∧ wr.frozen? ⟨tb, 1, none⟩ = false ∧ wr.ownsRow (tb + 1) 62 1 vr acc.length us ∧ RowsOwn wr (tb + 1) us acc ∧ (∀ r ∈ acc, ∀ x ∈ r, x.2.2.length ≤ 16) ∧ Below tb W wr

theorem own_ne {w : World} {B B' : Nat} {e e' : TypeId} {z z' : Nat} {u v : Value} {n m : Nat} {xs ys : List Value} (he : e ≠ e') (h : w.ownsRow B e z u n xs) (k : w.ownsRow B' e' z' v m ys) : u.ownBlock = none ∨ u.ownBlock ≠ v.ownBlock := by
  obtain ⟨-, ⟨rfl, -⟩ | ⟨g, cap, cur, rfl, -, hh, -⟩⟩ := h
  · exact Or.inl rfl
  · obtain ⟨-, ⟨rfl, -⟩ | ⟨g', cap', cur', rfl, -, hh', -⟩⟩ := k
    · exact Or.inr (by simp [Value.ownBlock])
    · refine Or.inr (fun e1 => ?_)
      simp only [Value.ownBlock, Option.some.injEq] at e1
      rw [e1, hh'] at hh
      simp only [Option.some.injEq, Obj.cells.injEq] at hh
      exact he hh.2.1.symm

theorem tab_step {wr W w3 w4 w5 : World} {tb : Nat} {vc vr u v' : Value} {us : List Value} {acc : List (List V3)} {row : List V3} (h : TabMem wr W tb vc vr us acc) (hb3 : Below wr.heap.size wr w3) (hb4 : Below w3.heap.size w3 w4)
    (hu : w4.ownsRow w3.heap.size 24 3 u row.length (valCells (row.map vl))) (hr : ∀ x ∈ row, x.2.2.length ≤ 16) (o : Obj) (hown : w5.ownsRow (tb + 1) 62 1 v' (acc.length + 1) (us ++ [u])) (hg : (w4.alloc o).grownBy w5 vr.ownBlock) :
    TabMem (w5.setCell ⟨tb, 1, none⟩ v') W tb vc v' (us ++ [u]) (acc ++ [row]) := by
  obtain ⟨h1, h2, h3, h4, h5, h6, h7, h8⟩ := h
  have hbb : Below wr.heap.size wr w4 := bel_then hb3 hb4
  have hne : some tb ≠ vr.ownBlock := fun e => by have := (h5.lt tb e.symm).1; omega
  have s4 := hbb.size
  have s3 := hb3.size
  have s5 := hg.size
  simp only [show (w4.alloc o).heap.size = w4.heap.size + 1 by simp] at s5
  have tc : ∀ j v, wr.cell? ⟨tb, j, none⟩ = some v → w5.cell? ⟨tb, j, none⟩ = some v := fun j v hv =>
    hg.cell (a := ⟨tb, j, none⟩) (by rw [World.cell?_alloc_past _ _ _ (by show tb < _; omega)]; exact (hbb.cell (p := ⟨tb, j, none⟩) h1).trans hv) hne
  have tf : w5.frozen? ⟨tb, 1, none⟩ = false := by
    rw [World.frozen?_of_block (w := w4.alloc o) (w' := w5) (a := ⟨tb, 1, none⟩) (hg.block tb (by simp; omega) hne)]
    rw [World.frozen?_of_block (w := w4) (w' := w4.alloc o) (a := ⟨tb, 1, none⟩) (Below.heap_alloc _ _ _ (by show tb < _; omega))]
    exact (hbb.frozen (p := ⟨tb, 1, none⟩) h1).trans h4
  refine ⟨by simp [World.setCell]; omega, ?_, ?_, ?_, ?_, ?_, ?_, ?_⟩
  · have := World.cell?_setCell_other (w := w5) (a := ⟨tb, 1, none⟩) (b := ⟨tb, 0, none⟩) (v := v') (by simp)
    rw [this]; exact tc 0 _ h2
  · exact World.cell?_setCell_same _ _ _ (tc 1 _ h3)
  · rw [World.frozen?_setCell]; exact tf
  · rw [List.length_append]; exact ownsRow_setCell_below hown (by show tb < _; omega) _
  · refine ⟨by simp [h6.1], fun j hj hj' => ownsRow_setCell_below ?_ (by show tb < _; omega) _⟩
    have h5' : w4.ownsRow (tb + 1) 62 1 vr acc.length us := owns_below h5 hbb
    by_cases hlt : j < us.length
    · rw [List.getElem_append_left hlt, List.getElem_append_left (by rw [← h6.1]; exact hlt)]
      have hj2 := owns_below (h6.2 j hlt (by rw [← h6.1]; exact hlt)) hbb
      exact (hj2.alloc o).kept hg (own_ne (by decide) hj2 h5')
    · have hje : j = us.length := by rw [List.length_append] at hj; simp at hj; omega
      subst hje
      have e1 : (us ++ [u])[us.length] = u := by simp
      have e2 : (acc ++ [row])[us.length]'(by rw [h6.1]; simp) = row := by simp [h6.1]
      rw [e1, e2]
      exact own_mono (by omega) ((hu.alloc o).kept hg (own_ne (by decide) hu h5'))
  · intro r hm x hx
    rw [List.mem_append] at hm
    rcases hm with hm | hm
    · exact h7 r hm x hx
    · simp at hm; rw [hm] at hx; exact hr x hx
  · exact (((h8.trans (hbb.mono (Nat.le_of_lt h1))).alloc (by omega) o).grown hg (by simp; omega) (fun q hq => by have := (h5.lt q hq).1; omega)).setCell (Nat.le_refl _) _

def strLen : Value → Nat | .string s => s.size | _ => 0

theorem parseT_of {l h r : List UInt8} {en : Bool} (hx : Lib.cut l [10] = (h, r, en)) : parseT l = if rightColsB (colsOf ⟨h.toArray⟩) = true then
    match linesRead (colsOf ⟨h.toArray⟩) (l.length + 1) [] r en with
    | .ok rs => .ok (colsOf ⟨h.toArray⟩, rs)
    | .error x => .error x
  else .error (3, 0) := by
  unfold parseT headOf; rw [hx]

theorem Tryz.infoRow : (Tryz.prog.info? 62).map (fun i => (i.zero, i.size, i.bytes)) = some (some (.slice none 0 0), 1, 24) := by kernel_rfl

/-- The rows of a table, as they are told. -/
theorem rows_of_mem {wr : World} {tb : Nat} {vr : Value} {us : List Value} {acc : List (List V3)} (h5 : wr.ownsRow (tb + 1) 62 1 vr acc.length us) (h6 : RowsOwn wr (tb + 1) us acc) (h7 : ∀ r ∈ acc, ∀ x ∈ r, x.2.2.length ≤ 16) : RowsIs wr vr (acc.map (·.map vl)) := by
  have h0 := h5
  obtain ⟨hxl, ⟨rfl, hn⟩ | ⟨g, cap, cur, rfl, hg, hh, hn, hm, _, _⟩⟩ := h5
  · exact ⟨none, 0, by rw [List.length_map, hn], Or.inl (by rw [List.length_eq_zero_iff.1 hn]; rfl)⟩
  · refine ⟨some ⟨g, 0, none⟩, cap, by rw [List.length_map], Or.inr ⟨g, 0, rfl, (h0.lt g rfl).2, fun j hj => ?_⟩⟩
    rw [List.length_map] at hj
    have hju : j < us.length := by rw [h6.1]; exact hj
    refine ⟨us[j], ?_, ?_⟩
    · have e := h0.cellAt j (by omega)
      rw [show 0 + j = j by omega, e, List.getElem?_eq_getElem hju]
    · rw [List.getElem_map]
      refine row_of_own (base := tb + 1) (by rw [List.length_map]; exact h6.2 j hju hj) ?_
      intro x hx
      rw [List.mem_map] at hx
      obtain ⟨y, hy, rfl⟩ := hx
      have := h7 _ (List.getElem_mem hj) y hy
      show y.2.2.toArray.size ≤ maxLen
      unfold maxLen
      simp
      omega

theorem rows_set {wr : World} {B R o : Nat} {v : Value} {us : List Value} {acc : List (List V3)} (h : RowsOwn wr B us acc) (hR : R < B) : RowsOwn (wr.setCell ⟨R, o, none⟩ v) B us acc :=
  ⟨h.1, fun j hj hj' => ownsRow_setCell_below (h.2 j hj hj') hR _⟩
theorem own_belowB {W wr : World} {B tb : Nat} {e : TypeId} {z : Nat} {v : Value} {n : Nat} {xs : List Value} (h : W.ownsRow B e z v n xs) (hb : Below tb W wr) (hlt : ∀ k, v.ownBlock = some k → k < tb) : wr.ownsRow B e z v n xs := by
  obtain ⟨h1, h2 | ⟨g, cap, cur, rfl, hg, hh, r⟩⟩ := h
  · exact ⟨h1, Or.inl h2⟩
  · exact ⟨h1, Or.inr ⟨g, cap, cur, rfl, hg, by rw [hb.block g (hlt g rfl)]; exact hh, r⟩⟩
end Go.Proofs.YtjceppinfjbegaaGreatDoor

