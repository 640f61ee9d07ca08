import Derived.Test.YtajkjhkjgibcfaaDoorWalkD
import Derived.Test.YtajkjhkjgibcfaaDoorShelf
import Derived.Lib.QuietBelow
set_option linter.unusedSimpArgs false
set_option linter.unusedVariables false
namespace Go.Proofs.YtajkjhkjgibcfaaDoor
open Go.RowKit

theorem bcell {W w1 : World} (hb : Below W.heap.size W w1) : (∀ b o, b < W.heap.size → w1.cell? ⟨b, o, none⟩ = W.cell? ⟨b, o, none⟩) ∧ (∀ b o, b < W.heap.size → w1.frozen? ⟨b, o, none⟩ = W.frozen? ⟨b, o, none⟩) :=
  ⟨fun b o h => hb.cell (p := ⟨b, o, none⟩) h, fun b o h => hb.frozen (p := ⟨b, o, none⟩) h⟩

theorem toBelow {P : Program} {f : FuncId} {args : Array Value} {w : World} {v : Value} (h : Calls P f args w fun e w' => e = .returned v ∧ w' = w) : Calls P f args w fun e w' => e = .returned v ∧ Below w.heap.size w w' :=
  h.mono fun _ _ x => ⟨x.1, by rw [x.2]; exact Below.refl _ _⟩

def kindB (n : Int) : Bool := n == 1 || n == 2
def colsOK (seen : List (ByteArray × Int)) : List (ByteArray × Int) → Bool
  | [] => true
  | c :: r => nameB c.1.data.toList && (kindB c.2 && (!calledB seen c.1.data.toList && colsOK (seen ++ [c]) r))
def rightColsB (cs : List (ByteArray × Int)) : Bool := decide (1 ≤ cs.length) && (decide (cs.length ≤ 6) && colsOK [] cs)

theorem colsOK_step (cs : List (ByteArray × Int)) (k : Nat) (h : k < cs.length) : colsOK (cs.take k) (cs.drop k) = (nameB cs[k].1.data.toList && (kindB cs[k].2 && (!calledB (cs.take k) cs[k].1.data.toList && colsOK (cs.take (k + 1)) (cs.drop (k + 1))))) := by
  rw [List.drop_eq_getElem_cons h, List.take_succ_eq_append_getElem h]; rfl

theorem ColsAt.take {w : World} {b o : Nat} {cs : List (ByteArray × Int)} (h : ColsAt w b o cs) (k : Nat) : ColsAt w b o (cs.take k) := fun j hj => by
  have hj' : j < cs.length := by rw [List.length_take] at hj; omega
  have := h j hj'
  rw [List.getElem_take]; exact this

end Go.Proofs.YtajkjhkjgibcfaaDoor

namespace Go.Proofs.YtajkjhkjgibcfaaDoor
open Go.RowKit

abbrev Vl := Int × Int × ByteArray
abbrev Cl := ByteArray × Int

/-- Where a row of values lies. -/
def ValsAt (w : World) (b o : Nat) (vs : List Vl) : Prop :=
  ∀ (j : Nat) (h : j < vs.length), w.cell? ⟨b, o + j * 3, none⟩ = some (.int .i64 vs[j].1) ∧ w.cell? ⟨b, o + j * 3 + 1, none⟩ = some (.int .i64 vs[j].2.1) ∧ w.cell? ⟨b, o + j * 3 + 2, none⟩ = some (.string vs[j].2.2)

theorem ValsAt.below {w w' : World} {B b o : Nat} {vs : List Vl} (h : ValsAt w b o vs) (hb : Below B w w') (hB : b < B) : ValsAt w' b o vs :=
  fun j hj => ⟨(hb.cell (p := ⟨b, o + j * 3, none⟩) hB).trans (h j hj).1, (hb.cell (p := ⟨b, o + j * 3 + 1, none⟩) hB).trans (h j hj).2.1, (hb.cell (p := ⟨b, o + j * 3 + 2, none⟩) hB).trans (h j hj).2.2⟩

def ColsIs (w : World) (v : Value) (cs : List Cl) : Prop :=
  ∃ a c, v = .slice a cs.length c ∧ cs.length ≤ c ∧ (∀ x ∈ cs, x.1.size ≤ maxLen) ∧ (cs = [] ∨ ∃ b o, a = some ⟨b, o, none⟩ ∧ b < w.heap.size ∧ ColsAt w b o cs)
def RowIs (w : World) (v : Value) (vs : List Vl) : Prop :=
  ∃ a c, v = .slice a vs.length c ∧ (∀ x ∈ vs, x.2.2.size ≤ maxLen) ∧ (vs = [] ∨ ∃ b o, a = some ⟨b, o, none⟩ ∧ b < w.heap.size ∧ ValsAt w b o vs)
def RowsAt (w : World) (b o : Nat) (rs : List (List Vl)) : Prop := ∀ (j : Nat) (h : j < rs.length), ∃ u, w.cell? ⟨b, o + j, none⟩ = some u ∧ RowIs w u rs[j]
def RowsIs (w : World) (v : Value) (rs : List (List Vl)) : Prop :=
  ∃ a c, v = .slice a rs.length c ∧ (rs = [] ∨ ∃ b o, a = some ⟨b, o, none⟩ ∧ b < w.heap.size ∧ RowsAt w b o rs)

theorem ColsIs.below {w w' : World} {v : Value} {cs : List Cl} (h : ColsIs w v cs) (hb : Below w.heap.size w w') : ColsIs w' v cs := by
  obtain ⟨a, c, e, hc, hs, h⟩ := h
  refine ⟨a, c, e, hc, hs, ?_⟩
  rcases h with h | ⟨b, o, e2, hl, hat⟩
  · exact Or.inl h
  · exact Or.inr ⟨b, o, e2, Nat.lt_of_lt_of_le hl hb.size, hat.below hb hl⟩
theorem RowIs.below {w w' : World} {v : Value} {vs : List Vl} (h : RowIs w v vs) (hb : Below w.heap.size w w') : RowIs w' v vs := by
  obtain ⟨a, c, e, hs, h⟩ := h
  refine ⟨a, c, e, hs, ?_⟩
  rcases h with h | ⟨b, o, e2, hl, hat⟩
  · exact Or.inl h
  · exact Or.inr ⟨b, o, e2, Nat.lt_of_lt_of_le hl hb.size, hat.below hb hl⟩
theorem RowsAt.below {w w' : World} {b o : Nat} {rs : List (List Vl)} (h : RowsAt w b o rs) (hb : Below w.heap.size w w') (hl : b < w.heap.size) : RowsAt w' b o rs := fun j hj => by
  obtain ⟨u, h1, h2⟩ := h j hj
  exact ⟨u, (hb.cell (p := ⟨b, o + j, none⟩) hl).trans h1, h2.below hb⟩
theorem RowsIs.below {w w' : World} {v : Value} {rs : List (List Vl)} (h : RowsIs w v rs) (hb : Below w.heap.size w w') : RowsIs w' v rs := by
  obtain ⟨a, c, e, h⟩ := h
  refine ⟨a, c, e, ?_⟩
  rcases h with h | ⟨b, o, e2, hl, hat⟩
  · exact Or.inl h
  · exact Or.inr ⟨b, o, e2, Nat.lt_of_lt_of_le hl hb.size, hat.below hb hl⟩

def rvB (x : Vl) : Bool := rightValueB x.1 x.2.1 x.2.2.data.toList
def rowOK : List Vl → List Cl → Bool
  | [], [] => true
  | v :: r, c :: q => v.1 == c.2 && (rvB v && rowOK r q)
  | _, _ => false

theorem rowOK_lens : ∀ (vs : List Vl) (cs : List Cl), vs.length ≠ cs.length → rowOK vs cs = false
  | [], [], h => absurd rfl h
  | [], _ :: _, _ => rfl
  | _ :: _, [], _ => rfl
  | v :: r, c :: q, h => by
    rw [rowOK, rowOK_lens r q (by simpa using h)]; simp
theorem rowOK_step (vs : List Vl) (cs : List Cl) (k : Nat) (h : k < vs.length) (h' : k < cs.length) : rowOK (vs.drop k) (cs.drop k) = (vs[k].1 == cs[k].2 && (rvB vs[k] && rowOK (vs.drop (k + 1)) (cs.drop (k + 1)))) := by
  rw [List.drop_eq_getElem_cons h, List.drop_eq_getElem_cons h']; rfl

theorem rightValue_vl (x : Vl) (w : World) (hs : x.2.2.size ≤ maxLen) :
    Calls Tryd.prog 74 #[.agg #[.int .i64 x.1, .int .i64 x.2.1, .string x.2.2]] w fun e w' => e = .returned (.bool (rvB x)) ∧ Below w.heap.size w w' := rightValue_any _ _ _ _ hs

end Go.Proofs.YtajkjhkjgibcfaaDoor

namespace Go.Proofs.YtajkjhkjgibcfaaDoor
open Go.RowKit

def rightB (cs : List Cl) (rs : List (List Vl)) : Bool := rightColsB cs && (decide (rs.length ≤ 60) && rs.all fun r => rowOK r cs)

theorem rightCols_len {cs : List Cl} (h : rightColsB cs = true) : 1 ≤ cs.length ∧ cs.length ≤ 6 := by
  simp [rightColsB] at h; exact ⟨by omega, h.2.1⟩
theorem all_step {p : List Vl → Bool} {rs : List (List Vl)} {k : Nat} (h : k < rs.length) (ht : (rs.take k).all p = true) (hp : p rs[k] = true) : (rs.take (k + 1)).all p = true := by
  rw [List.take_succ_eq_append_getElem h, List.all_append, ht]; simp [hp]
theorem all_false {p : List Vl → Bool} {rs : List (List Vl)} {k : Nat} (h : k < rs.length) (hp : p rs[k] = false) : rs.all p = false := by
  rw [List.all_eq_false]; exact ⟨_, List.getElem_mem h, by simp [hp]⟩

end Go.Proofs.YtajkjhkjgibcfaaDoor

