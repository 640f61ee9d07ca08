import Derived.Test.YtedflhiflomoeaaGreatDoorWalkE
set_option linter.unusedSimpArgs false
set_option linter.unusedVariables false
namespace Go.Proofs.YtedflhiflomoeaaGreatDoor
open Go.RowKit

abbrev Vl := Int × Int × ByteArray
abbrev Cl := ByteArray × Int

/-- Where a row of values lies. -/
def ValsAt (w : World) (b o : Nat) (vs : List Vl) : Prop :=
  ∀ (j : Nat) (h : j < vs.length), w.cell? ⟨b, o + j * 3, none⟩ = some (.int .i64 vs[j].1) ∧ w.cell? ⟨b, o + j * 3 + 1, none⟩ = some (.int .i64 vs[j].2.1) ∧ w.cell? ⟨b, o + j * 3 + 2, none⟩ = some (.string vs[j].2.2)

theorem ValsAt.below {w w' : World} {B b o : Nat} {vs : List Vl} (h : ValsAt w b o vs) (hb : Below B w w') (hB : b < B) : ValsAt w' b o vs :=
  fun j hj => ⟨(hb.cell (p := ⟨b, o + j * 3, none⟩) hB).trans (h j hj).1, (hb.cell (p := ⟨b, o + j * 3 + 1, none⟩) hB).trans (h j hj).2.1, (hb.cell (p := ⟨b, o + j * 3 + 2, none⟩) hB).trans (h j hj).2.2⟩

def ColsIs (w : World) (v : Value) (cs : List Cl) : Prop :=
  ∃ a c, v = .slice a cs.length c ∧ cs.length ≤ c ∧ (∀ x ∈ cs, x.1.size ≤ maxLen) ∧ (cs = [] ∨ ∃ b o, a = some ⟨b, o, none⟩ ∧ b < w.heap.size ∧ ColsAt w b o cs)
def RowIs (w : World) (v : Value) (vs : List Vl) : Prop :=
  ∃ a c, v = .slice a vs.length c ∧ (∀ x ∈ vs, x.2.2.size ≤ maxLen) ∧ (vs = [] ∨ ∃ b o, a = some ⟨b, o, none⟩ ∧ b < w.heap.size ∧ ValsAt w b o vs)
def RowsAt (w : World) (b o : Nat) (rs : List (List Vl)) : Prop := ∀ (j : Nat) (h : j < rs.length), ∃ u, w.cell? ⟨b, o + j, none⟩ = some u ∧ RowIs w u rs[j]
def RowsIs (w : World) (v : Value) (rs : List (List Vl)) : Prop :=
  ∃ a c, v = .slice a rs.length c ∧ (rs = [] ∨ ∃ b o, a = some ⟨b, o, none⟩ ∧ b < w.heap.size ∧ RowsAt w b o rs)

theorem ColsIs.below {w w' : World} {v : Value} {cs : List Cl} (h : ColsIs w v cs) (hb : Below w.heap.size w w') : ColsIs w' v cs := by
  obtain ⟨a, c, e, hc, hs, h⟩ := h
  refine ⟨a, c, e, hc, hs, ?_⟩
  rcases h with h | ⟨b, o, e2, hl, hat⟩
  · exact Or.inl h
  · exact Or.inr ⟨b, o, e2, Nat.lt_of_lt_of_le hl hb.size, hat.below hb hl⟩
theorem RowIs.below {w w' : World} {v : Value} {vs : List Vl} (h : RowIs w v vs) (hb : Below w.heap.size w w') : RowIs w' v vs := by
  obtain ⟨a, c, e, hs, h⟩ := h
  refine ⟨a, c, e, hs, ?_⟩
  rcases h with h | ⟨b, o, e2, hl, hat⟩
  · exact Or.inl h
  · exact Or.inr ⟨b, o, e2, Nat.lt_of_lt_of_le hl hb.size, hat.below hb hl⟩
theorem RowsAt.below {w w' : World} {b o : Nat} {rs : List (List Vl)} (h : RowsAt w b o rs) (hb : Below w.heap.size w w') (hl : b < w.heap.size) : RowsAt w' b o rs := fun j hj => by
  obtain ⟨u, h1, h2⟩ := h j hj
  exact ⟨u, (hb.cell (p := ⟨b, o + j, none⟩) hl).trans h1, h2.below hb⟩
theorem RowsIs.below {w w' : World} {v : Value} {rs : List (List Vl)} (h : RowsIs w v rs) (hb : Below w.heap.size w w') : RowsIs w' v rs := by
  obtain ⟨a, c, e, h⟩ := h
  refine ⟨a, c, e, ?_⟩
  rcases h with h | ⟨b, o, e2, hl, hat⟩
  · exact Or.inl h
  · exact Or.inr ⟨b, o, e2, Nat.lt_of_lt_of_le hl hb.size, hat.below hb hl⟩

def rvB (x : Vl) : Bool := rightValueB x.1 x.2.1 x.2.2.data.toList
def rowOK : List Vl → List Cl → Bool
  | [], [] => true
  | v :: r, c :: q => v.1 == c.2 && (rvB v && rowOK r q)
  | _, _ => false

theorem rowOK_lens : ∀ (vs : List Vl) (cs : List Cl), vs.length ≠ cs.length → rowOK vs cs = false
  | [], [], h => absurd rfl h
  | [], _ :: _, _ => rfl
  | _ :: _, [], _ => rfl
  | v :: r, c :: q, h => by
    rw [rowOK, rowOK_lens r q (by simpa using h)]; simp
theorem rowOK_step (vs : List Vl) (cs : List Cl) (k : Nat) (h : k < vs.length) (h' : k < cs.length) : rowOK (vs.drop k) (cs.drop k) = (vs[k].1 == cs[k].2 && (rvB vs[k] && rowOK (vs.drop (k + 1)) (cs.drop (k + 1)))) := by
  rw [List.drop_eq_getElem_cons h, List.drop_eq_getElem_cons h']; rfl

theorem rightValue_vl (x : Vl) (w : World) (hs : x.2.2.size ≤ maxLen) :
    Calls Tryz.prog 116 #[.agg #[.int .i64 x.1, .int .i64 x.2.1, .string x.2.2]] w fun e w' => e = .returned (.bool (rvB x)) ∧ Below w.heap.size w w' := rightValue_any _ _ _ _ hs

end Go.Proofs.YtedflhiflomoeaaGreatDoor
