import Derived.Test.YtajkjhkjgibcfaaDoorFlwY
set_option linter.unusedSimpArgs false
set_option linter.unusedVariables false
namespace Go.Proofs.YtajkjhkjgibcfaaDoor
open Go.RowKit

/-- A flow's parts that can be read. -/
def RowR (w : World) (v : Value) (n z : Nat) (P : Nat → World → Nat → Nat → Prop) : Prop := (v = .slice none 0 0 ∧ n = 0) ∨ ∃ b c, v = .slice (some ⟨b, 0, none⟩) n c ∧ n ≤ c ∧ b < w.heap.size ∧ ∀ j, j < n → P j w b (j * z)
def InAt (l : List FIn) (j : Nat) (w : World) (b o : Nat) : Prop := ∃ (a : FIn) (v : Value), l[j]? = some a ∧ w.cell? ⟨b, o, none⟩ = some (.int .i64 (a.at_ : Nat)) ∧ w.cell? ⟨b, o + 1, none⟩ = some (.string (ba a.name)) ∧ w.cell? ⟨b, o + 2, none⟩ = some v ∧ ColsR w v a.cols
def OutAt (l : List FOut) (j : Nat) (w : World) (b o : Nat) : Prop := ∃ (a : FOut), l[j]? = some a ∧ w.cell? ⟨b, o, none⟩ = some (.int .i64 (a.at_ : Nat)) ∧ w.cell? ⟨b, o + 1, none⟩ = some (.string (ba a.name)) ∧ w.cell? ⟨b, o + 2, none⟩ = some (.string (ba a.from_))
def JobCellsAt (l : List FJob) (j : Nat) (w : World) (b o : Nat) : Prop := ∃ (a : FJob) (vo vi vc : Value), l[j]? = some a ∧ (∀ i u, (jobV a vo vi vc)[i]? = some u → w.cell? ⟨b, o + i, none⟩ = some u) ∧ StrsR w vo a.outs ∧ StrsR w vi a.ins ∧ StrsR w vc a.cols
theorem InAt.below {l : List FIn} {j b o : Nat} {w w' : World} (h : InAt l j w b o) (hb : Below w.heap.size w w') (hl : b < w.heap.size) : InAt l j w' b o := by
  obtain ⟨a, v, h1, h2, h3, h4, h5⟩ := h
  exact ⟨a, v, h1, (hb.cell (p := ⟨b, o, none⟩) hl).trans h2, (hb.cell (p := ⟨b, o + 1, none⟩) hl).trans h3, (hb.cell (p := ⟨b, o + 2, none⟩) hl).trans h4, h5.below hb⟩
theorem OutAt.below {l : List FOut} {j b o : Nat} {w w' : World} (h : OutAt l j w b o) (hb : Below w.heap.size w w') (hl : b < w.heap.size) : OutAt l j w' b o := by
  obtain ⟨a, h1, h2, h3, h4⟩ := h
  exact ⟨a, h1, (hb.cell (p := ⟨b, o, none⟩) hl).trans h2, (hb.cell (p := ⟨b, o + 1, none⟩) hl).trans h3, (hb.cell (p := ⟨b, o + 2, none⟩) hl).trans h4⟩
theorem JobCellsAt.below {l : List FJob} {j b o : Nat} {w w' : World} (h : JobCellsAt l j w b o) (hb : Below w.heap.size w w') (hl : b < w.heap.size) : JobCellsAt l j w' b o := by
  obtain ⟨a, vo, vi, vc, h1, h2, h3, h4, h5⟩ := h
  exact ⟨a, vo, vi, vc, h1, fun i u hu => (hb.cell (p := ⟨b, o + i, none⟩) hl).trans (h2 i u hu), h3.below hb, h4.below hb, h5.below hb⟩
theorem RowR.below {w w' : World} {v : Value} {n z : Nat} {P : Nat → World → Nat → Nat → Prop} (h : RowR w v n z P) (hb : Below w.heap.size w w') (hP : ∀ j b o, P j w b o → b < w.heap.size → P j w' b o) : RowR w' v n z P := by
  rcases h with h | ⟨b, c, hv, hc, hl, hx⟩
  · exact Or.inl h
  · exact Or.inr ⟨b, c, hv, hc, Nat.lt_of_lt_of_le hl hb.size, fun j hj => hP _ _ _ (hx j hj) hl⟩
theorem RowR.of {w : World} {B : Nat} {e : TypeId} {z n : Nat} {v : Value} {xs : List Value} {P : Nat → World → Nat → Nat → Prop} (h : w.ownsRow B e z v n xs) (hP : ∀ b, (∀ i u, i < n * z → xs[i]? = some u → w.cell? ⟨b, i, none⟩ = some u) → ∀ j, j < n → P j w b (j * z)) : RowR w v n z P := by
  have h0 := h
  obtain ⟨-, ⟨hv, hn0⟩ | ⟨g, cap, cur, hve, hgB, -, hcap, hm, -, -⟩⟩ := h
  · exact Or.inl ⟨by rw [hv], hn0⟩
  · subst hve
    refine Or.inr ⟨g, cap, rfl, hcap, (h0.lt g rfl).2, hP g fun i u hi hu => ?_⟩
    rw [h0.cellAt i hi, hu]
theorem insV_at : ∀ {w : World} {B : Nat} {l : List FIn} {vs : List Value}, HI w B l vs → ∀ j, j < l.length → ∃ a v, l[j]? = some a ∧ encCs B a.cols v w ∧ (insV l vs)[j * 3]? = some (.int .i64 (a.at_ : Nat)) ∧ (insV l vs)[j * 3 + 1]? = some (.string (ba a.name)) ∧ (insV l vs)[j * 3 + 2]? = some v
  | w, B, [], [], _, j, hj => absurd hj (by simp)
  | w, B, a :: l, v :: vs, h, 0, hj => ⟨a, v, rfl, h.1, rfl, rfl, rfl⟩
  | w, B, a :: l, v :: vs, h, j + 1, hj => by
    obtain ⟨b, u, h1, h2, h3, h4, h5⟩ := insV_at h.2 j (by simpa using hj)
    refine ⟨b, u, by simpa using h1, h2, ?_⟩
    have e : insV (a :: l) (v :: vs) = .int .i64 (a.at_ : Nat) :: .string (ba a.name) :: v :: insV l vs := rfl
    rw [e, show (j + 1) * 3 = j * 3 + 1 + 1 + 1 by omega, show j * 3 + 1 + 1 + 1 + 1 = (j * 3 + 1) + 1 + 1 + 1 by omega, show j * 3 + 1 + 1 + 1 + 2 = (j * 3 + 2) + 1 + 1 + 1 by omega]
    simpa using ⟨h3, h4, h5⟩
theorem InsAt.row {w : World} {B : Nat} {l : List FIn} {v : Value} (h : InsAt w B l v) : RowR w v l.length 3 (InAt l) := by
  obtain ⟨vs, h1, h2⟩ := h
  refine RowR.of h1 fun b hb j hj => ?_
  obtain ⟨a, u, k1, k2, k3, k4, k5⟩ := insV_at h2 j hj
  exact ⟨a, u, k1, hb _ _ (by omega) k3, hb _ _ (by omega) k4, hb _ _ (by omega) k5, ColsR.of k2⟩
theorem outsV_at : ∀ (l : List FOut) (j : Nat), j < l.length → ∃ a, l[j]? = some a ∧ (outsV l)[j * 3]? = some (.int .i64 (a.at_ : Nat)) ∧ (outsV l)[j * 3 + 1]? = some (.string (ba a.name)) ∧ (outsV l)[j * 3 + 2]? = some (.string (ba a.from_))
  | [], j, hj => absurd hj (by simp)
  | a :: l, 0, hj => ⟨a, rfl, rfl, rfl, rfl⟩
  | a :: l, j + 1, hj => by
    obtain ⟨b, h1, h3, h4, h5⟩ := outsV_at l j (by simpa using hj)
    refine ⟨b, by simpa using h1, ?_⟩
    have e : outsV (a :: l) = .int .i64 (a.at_ : Nat) :: .string (ba a.name) :: .string (ba a.from_) :: outsV l := rfl
    rw [e, show (j + 1) * 3 = j * 3 + 1 + 1 + 1 by omega, show j * 3 + 1 + 1 + 1 + 1 = (j * 3 + 1) + 1 + 1 + 1 by omega, show j * 3 + 1 + 1 + 1 + 2 = (j * 3 + 2) + 1 + 1 + 1 by omega]
    simpa using ⟨h3, h4, h5⟩
theorem outs_row {w : World} {B : Nat} {l : List FOut} {v : Value} (h : w.ownsRow B 66 3 v l.length (outsV l)) : RowR w v l.length 3 (OutAt l) := by
  refine RowR.of h fun b hb j hj => ?_
  obtain ⟨a, k1, k3, k4, k5⟩ := outsV_at l j hj
  exact ⟨a, k1, hb _ _ (by omega) k3, hb _ _ (by omega) k4, hb _ _ (by omega) k5⟩
theorem jobsV_at : ∀ {w : World} {B : Nat} {l : List FJob} {vs : List (Value × Value × Value)}, HJ w B l vs → ∀ j, j < l.length → ∃ (a : FJob) (v : Value × Value × Value), l[j]? = some a ∧ (encL B a.outs v.1 w ∧ encL B a.ins v.2.1 w ∧ encL B a.cols v.2.2 w) ∧ ∀ i u, (jobV a v.1 v.2.1 v.2.2)[i]? = some u → (jobsV l vs)[j * 15 + i]? = some u
  | w, B, [], [], _, j, hj => absurd hj (by simp)
  | w, B, a :: l, v :: vs, h, 0, hj => ⟨a, v, rfl, h.1, fun i u hu => by
      have hi : i < 15 := (List.getElem?_eq_some_iff.1 hu).1
      rw [show jobsV (a :: l) (v :: vs) = jobV a v.1 v.2.1 v.2.2 ++ jobsV l vs from rfl, show 0 * 15 + i = i by omega, List.getElem?_append_left (by exact hi)]
      exact hu⟩
  | w, B, a :: l, v :: vs, h, j + 1, hj => by
    obtain ⟨b, u, h1, h2, h3⟩ := jobsV_at h.2 j (by simpa using hj)
    refine ⟨b, u, by simpa using h1, h2, fun i x hx => ?_⟩
    rw [show jobsV (a :: l) (v :: vs) = jobV a v.1 v.2.1 v.2.2 ++ jobsV l vs from rfl, List.getElem?_append_right (by show 15 ≤ _; omega)]
    rw [show (j + 1) * 15 + i - (jobV a v.1 v.2.1 v.2.2).length = j * 15 + i by show _ - 15 = _; omega]
    exact h3 i x hx
theorem JobsAt.row {w : World} {B : Nat} {l : List FJob} {v : Value} (h : JobsAt w B l v) : RowR w v l.length 15 (JobCellsAt l) := by
  obtain ⟨vs, h1, h2⟩ := h
  refine RowR.of h1 fun b hb j hj => ?_
  obtain ⟨a, u, k1, k2, k3⟩ := jobsV_at h2 j hj
  refine ⟨a, u.1, u.2.1, u.2.2, k1, fun i x hx => ?_, StrsR.of k2.1, StrsR.of k2.2.1, StrsR.of k2.2.2⟩
  have hi : i < 15 := (List.getElem?_eq_some_iff.1 hx).1
  exact hb _ _ (by omega) (k3 i x hx)
/-- A flow that can be read. -/
structure FlowRd (w : World) (f : Flw) (vi vj vo : Value) : Prop where
  ins : RowR w vi f.ins.length 3 (InAt f.ins)
  jobs : RowR w vj f.jobs.length 15 (JobCellsAt f.jobs)
  outs : RowR w vo f.outs.length 3 (OutAt f.outs)
theorem FlowRd.below {w w' : World} {f : Flw} {vi vj vo : Value} (h : FlowRd w f vi vj vo) (hb : Below w.heap.size w w') : FlowRd w' f vi vj vo :=
  ⟨h.ins.below hb fun _ _ _ hh hl => hh.below hb hl, h.jobs.below hb fun _ _ _ hh hl => hh.below hb hl, h.outs.below hb fun _ _ _ hh hl => hh.below hb hl⟩
theorem FlowRd.of {w : World} {B : Nat} {f : Flw} {vi vj vo : Value} (h : FlowO w B f.ins vi f.jobs vj f.outs vo) : FlowRd w f vi vj vo := ⟨h.ins.row, h.jobs.row, outs_row h.row⟩
end Go.Proofs.YtajkjhkjgibcfaaDoor

