import Derived.Test.YtedflhiflomoeaaGreatDoorFlwP
import Derived.Deep.QuietTactic
import Derived.BigQuiet
import Derived.Lib.QuietBelow
import Derived.Deep.CutBlock
import Derived.Deep.MidRow
import Derived.Deep.RegionHeld3
import Derived.Deep.Cut
import Derived.Deep.DeepCutAuto
import Derived.BigRegion
set_option linter.unusedSimpArgs false
set_option linter.unusedVariables false
namespace Go.Proofs.YtedflhiflomoeaaGreatDoor
open Go.RowKit

/-- Texts that can be read. -/
def StrsR (w : World) (v : Value) (xs : List By) : Prop := (v = .slice none 0 0 ∧ xs = []) ∨ ∃ b o c, v = .slice (some ⟨b, o, none⟩) xs.length c ∧ xs.length ≤ c ∧ b < w.heap.size ∧ ∀ (j : Nat) (h : j < xs.length), w.cell? ⟨b, o + j, none⟩ = some (.string (ba xs[j]))
theorem StrsR.below {w w' : World} {v : Value} {xs : List By} (h : StrsR w v xs) (hb : Below w.heap.size w w') : StrsR w' v xs := by
  rcases h with h | ⟨b, o, c, hv, hc, hl, hx⟩
  · exact Or.inl h
  · exact Or.inr ⟨b, o, c, hv, hc, Nat.lt_of_lt_of_le hl hb.size, fun j hj => (hb.cell (p := ⟨b, o + j, none⟩) hl).trans (hx j hj)⟩
theorem StrsR.of {w : World} {B : Nat} {v : Value} {xs : List By} (h : encL B xs v w) : StrsR w v xs := by
  have h0 : w.ownsRow B 9 1 v xs.length (strV xs) := h
  obtain ⟨-, ⟨hv, hn0⟩ | ⟨g, cap, cur, hve, hgB, -, hcap, hm, -, -⟩⟩ := (show w.ownsRow B 9 1 v xs.length (strV xs) from h)
  · exact Or.inl ⟨by rw [hv], List.eq_nil_of_length_eq_zero hn0⟩
  · subst hve
    refine Or.inr ⟨g, 0, cap, rfl, hcap, (h0.lt g rfl).2, fun j hj => ?_⟩
    rw [Nat.zero_add, h0.cellAt j (by omega)]
    simp [strV, hj]
/-- Columns that can be read. -/
def ColsR (w : World) (v : Value) (xs : List (By × Int)) : Prop := (v = .slice none 0 0 ∧ xs = []) ∨ ∃ b o c, v = .slice (some ⟨b, o, none⟩) xs.length c ∧ xs.length ≤ c ∧ b < w.heap.size ∧ ∀ (j : Nat) (h : j < xs.length), w.cell? ⟨b, o + j * 2, none⟩ = some (.string (ba xs[j].1)) ∧ w.cell? ⟨b, o + j * 2 + 1, none⟩ = some (.int .i64 xs[j].2)
theorem ColsR.below {w w' : World} {v : Value} {xs : List (By × Int)} (h : ColsR w v xs) (hb : Below w.heap.size w w') : ColsR w' v xs := by
  rcases h with h | ⟨b, o, c, hv, hc, hl, hx⟩
  · exact Or.inl h
  · exact Or.inr ⟨b, o, c, hv, hc, Nat.lt_of_lt_of_le hl hb.size, fun j hj => ⟨(hb.cell (p := ⟨b, o + j * 2, none⟩) hl).trans (hx j hj).1, (hb.cell (p := ⟨b, o + j * 2 + 1, none⟩) hl).trans (hx j hj).2⟩⟩
theorem colV_at : ∀ (l : List (By × Int)) (j : Nat) (h : j < l.length), (colV l)[j * 2]? = some (.string (ba l[j].1)) ∧ (colV l)[j * 2 + 1]? = some (.int .i64 l[j].2)
  | [], j, h => absurd h (by simp)
  | a :: r, 0, h => ⟨rfl, rfl⟩
  | a :: r, j + 1, h => by
    have ih := colV_at r j (by simpa using h)
    have e : colV (a :: r) = .string (ba a.1) :: .int .i64 a.2 :: colV r := rfl
    rw [e, show (j + 1) * 2 = j * 2 + 1 + 1 by omega, show j * 2 + 1 + 1 + 1 = (j * 2 + 1) + 1 + 1 by omega]
    simpa using ih
theorem ColsR.of {w : World} {B : Nat} {v : Value} {xs : List (By × Int)} (h : encCs B xs v w) : ColsR w v xs := by
  have h0 : w.ownsRow B 86 2 v xs.length (colV xs) := h
  obtain ⟨-, ⟨hv, hn0⟩ | ⟨g, cap, cur, hve, hgB, -, hcap, hm, -, -⟩⟩ := (show w.ownsRow B 86 2 v xs.length (colV xs) from h)
  · exact Or.inl ⟨by rw [hv], List.eq_nil_of_length_eq_zero hn0⟩
  · subst hve
    refine Or.inr ⟨g, 0, cap, rfl, hcap, (h0.lt g rfl).2, fun j hj => ?_⟩
    have hc := colV_at xs j hj
    exact ⟨by rw [Nat.zero_add, h0.cellAt _ (by omega), hc.1], by rw [Nat.zero_add, h0.cellAt _ (by omega), hc.2]⟩

/-- A flow's parts that can be read. -/
def RowR (w : World) (v : Value) (n z : Nat) (P : Nat → World → Nat → Nat → Prop) : Prop := (v = .slice none 0 0 ∧ n = 0) ∨ ∃ b c, v = .slice (some ⟨b, 0, none⟩) n c ∧ n ≤ c ∧ b < w.heap.size ∧ ∀ j, j < n → P j w b (j * z)
def InAt (l : List FIn) (j : Nat) (w : World) (b o : Nat) : Prop := ∃ (a : FIn) (v : Value), l[j]? = some a ∧ w.cell? ⟨b, o, none⟩ = some (.int .i64 (a.at_ : Nat)) ∧ w.cell? ⟨b, o + 1, none⟩ = some (.string (ba a.name)) ∧ w.cell? ⟨b, o + 2, none⟩ = some v ∧ ColsR w v a.cols
def OutAt (l : List FOut) (j : Nat) (w : World) (b o : Nat) : Prop := ∃ (a : FOut), l[j]? = some a ∧ w.cell? ⟨b, o, none⟩ = some (.int .i64 (a.at_ : Nat)) ∧ w.cell? ⟨b, o + 1, none⟩ = some (.string (ba a.name)) ∧ w.cell? ⟨b, o + 2, none⟩ = some (.string (ba a.from_))
def JobCellsAt (l : List FJob) (j : Nat) (w : World) (b o : Nat) : Prop := ∃ (a : FJob) (vo vi vc : Value), l[j]? = some a ∧ (∀ i u, (jobV a vo vi vc)[i]? = some u → w.cell? ⟨b, o + i, none⟩ = some u) ∧ StrsR w vo a.outs ∧ StrsR w vi a.ins ∧ StrsR w vc a.cols
theorem InAt.below {l : List FIn} {j b o : Nat} {w w' : World} (h : InAt l j w b o) (hb : Below w.heap.size w w') (hl : b < w.heap.size) : InAt l j w' b o := by
  obtain ⟨a, v, h1, h2, h3, h4, h5⟩ := h
  exact ⟨a, v, h1, (hb.cell (p := ⟨b, o, none⟩) hl).trans h2, (hb.cell (p := ⟨b, o + 1, none⟩) hl).trans h3, (hb.cell (p := ⟨b, o + 2, none⟩) hl).trans h4, h5.below hb⟩
theorem OutAt.below {l : List FOut} {j b o : Nat} {w w' : World} (h : OutAt l j w b o) (hb : Below w.heap.size w w') (hl : b < w.heap.size) : OutAt l j w' b o := by
  obtain ⟨a, h1, h2, h3, h4⟩ := h
  exact ⟨a, h1, (hb.cell (p := ⟨b, o, none⟩) hl).trans h2, (hb.cell (p := ⟨b, o + 1, none⟩) hl).trans h3, (hb.cell (p := ⟨b, o + 2, none⟩) hl).trans h4⟩
theorem JobCellsAt.below {l : List FJob} {j b o : Nat} {w w' : World} (h : JobCellsAt l j w b o) (hb : Below w.heap.size w w') (hl : b < w.heap.size) : JobCellsAt l j w' b o := by
  obtain ⟨a, vo, vi, vc, h1, h2, h3, h4, h5⟩ := h
  exact ⟨a, vo, vi, vc, h1, fun i u hu => (hb.cell (p := ⟨b, o + i, none⟩) hl).trans (h2 i u hu), h3.below hb, h4.below hb, h5.below hb⟩
theorem RowR.below {w w' : World} {v : Value} {n z : Nat} {P : Nat → World → Nat → Nat → Prop} (h : RowR w v n z P) (hb : Below w.heap.size w w') (hP : ∀ j b o, P j w b o → b < w.heap.size → P j w' b o) : RowR w' v n z P := by
  rcases h with h | ⟨b, c, hv, hc, hl, hx⟩
  · exact Or.inl h
  · exact Or.inr ⟨b, c, hv, hc, Nat.lt_of_lt_of_le hl hb.size, fun j hj => hP _ _ _ (hx j hj) hl⟩
theorem RowR.of {w : World} {B : Nat} {e : TypeId} {z n : Nat} {v : Value} {xs : List Value} {P : Nat → World → Nat → Nat → Prop} (h : w.ownsRow B e z v n xs) (hP : ∀ b, (∀ i u, i < n * z → xs[i]? = some u → w.cell? ⟨b, i, none⟩ = some u) → ∀ j, j < n → P j w b (j * z)) : RowR w v n z P := by
  have h0 := h
  obtain ⟨-, ⟨hv, hn0⟩ | ⟨g, cap, cur, hve, hgB, -, hcap, hm, -, -⟩⟩ := h
  · exact Or.inl ⟨by rw [hv], hn0⟩
  · subst hve
    refine Or.inr ⟨g, cap, rfl, hcap, (h0.lt g rfl).2, hP g fun i u hi hu => ?_⟩
    rw [h0.cellAt i hi, hu]
theorem insV_at : ∀ {w : World} {B : Nat} {l : List FIn} {vs : List Value}, HI w B l vs → ∀ j, j < l.length → ∃ a v, l[j]? = some a ∧ encCs B a.cols v w ∧ (insV l vs)[j * 3]? = some (.int .i64 (a.at_ : Nat)) ∧ (insV l vs)[j * 3 + 1]? = some (.string (ba a.name)) ∧ (insV l vs)[j * 3 + 2]? = some v
  | w, B, [], [], _, j, hj => absurd hj (by simp)
  | w, B, a :: l, v :: vs, h, 0, hj => ⟨a, v, rfl, h.1, rfl, rfl, rfl⟩
  | w, B, a :: l, v :: vs, h, j + 1, hj => by
    obtain ⟨b, u, h1, h2, h3, h4, h5⟩ := insV_at h.2 j (by simpa using hj)
    refine ⟨b, u, by simpa using h1, h2, ?_⟩
    have e : insV (a :: l) (v :: vs) = .int .i64 (a.at_ : Nat) :: .string (ba a.name) :: v :: insV l vs := rfl
    rw [e, show (j + 1) * 3 = j * 3 + 1 + 1 + 1 by omega, show j * 3 + 1 + 1 + 1 + 1 = (j * 3 + 1) + 1 + 1 + 1 by omega, show j * 3 + 1 + 1 + 1 + 2 = (j * 3 + 2) + 1 + 1 + 1 by omega]
    simpa using ⟨h3, h4, h5⟩
theorem InsAt.row {w : World} {B : Nat} {l : List FIn} {v : Value} (h : InsAt w B l v) : RowR w v l.length 3 (InAt l) := by
  obtain ⟨vs, h1, h2⟩ := h
  refine RowR.of h1 fun b hb j hj => ?_
  obtain ⟨a, u, k1, k2, k3, k4, k5⟩ := insV_at h2 j hj
  exact ⟨a, u, k1, hb _ _ (by omega) k3, hb _ _ (by omega) k4, hb _ _ (by omega) k5, ColsR.of k2⟩
theorem outsV_at : ∀ (l : List FOut) (j : Nat), j < l.length → ∃ a, l[j]? = some a ∧ (outsV l)[j * 3]? = some (.int .i64 (a.at_ : Nat)) ∧ (outsV l)[j * 3 + 1]? = some (.string (ba a.name)) ∧ (outsV l)[j * 3 + 2]? = some (.string (ba a.from_))
  | [], j, hj => absurd hj (by simp)
  | a :: l, 0, hj => ⟨a, rfl, rfl, rfl, rfl⟩
  | a :: l, j + 1, hj => by
    obtain ⟨b, h1, h3, h4, h5⟩ := outsV_at l j (by simpa using hj)
    refine ⟨b, by simpa using h1, ?_⟩
    have e : outsV (a :: l) = .int .i64 (a.at_ : Nat) :: .string (ba a.name) :: .string (ba a.from_) :: outsV l := rfl
    rw [e, show (j + 1) * 3 = j * 3 + 1 + 1 + 1 by omega, show j * 3 + 1 + 1 + 1 + 1 = (j * 3 + 1) + 1 + 1 + 1 by omega, show j * 3 + 1 + 1 + 1 + 2 = (j * 3 + 2) + 1 + 1 + 1 by omega]
    simpa using ⟨h3, h4, h5⟩
theorem outs_row {w : World} {B : Nat} {l : List FOut} {v : Value} (h : w.ownsRow B 66 3 v l.length (outsV l)) : RowR w v l.length 3 (OutAt l) := by
  refine RowR.of h fun b hb j hj => ?_
  obtain ⟨a, k1, k3, k4, k5⟩ := outsV_at l j hj
  exact ⟨a, k1, hb _ _ (by omega) k3, hb _ _ (by omega) k4, hb _ _ (by omega) k5⟩
theorem jobsV_at : ∀ {w : World} {B : Nat} {l : List FJob} {vs : List (Value × Value × Value)}, HJ w B l vs → ∀ j, j < l.length → ∃ (a : FJob) (v : Value × Value × Value), l[j]? = some a ∧ (encL B a.outs v.1 w ∧ encL B a.ins v.2.1 w ∧ encL B a.cols v.2.2 w) ∧ ∀ i u, (jobV a v.1 v.2.1 v.2.2)[i]? = some u → (jobsV l vs)[j * 15 + i]? = some u
  | w, B, [], [], _, j, hj => absurd hj (by simp)
  | w, B, a :: l, v :: vs, h, 0, hj => ⟨a, v, rfl, h.1, fun i u hu => by
      have hi : i < 15 := (List.getElem?_eq_some_iff.1 hu).1
      rw [show jobsV (a :: l) (v :: vs) = jobV a v.1 v.2.1 v.2.2 ++ jobsV l vs from rfl, show 0 * 15 + i = i by omega, List.getElem?_append_left (by exact hi)]
      exact hu⟩
  | w, B, a :: l, v :: vs, h, j + 1, hj => by
    obtain ⟨b, u, h1, h2, h3⟩ := jobsV_at h.2 j (by simpa using hj)
    refine ⟨b, u, by simpa using h1, h2, fun i x hx => ?_⟩
    rw [show jobsV (a :: l) (v :: vs) = jobV a v.1 v.2.1 v.2.2 ++ jobsV l vs from rfl, List.getElem?_append_right (by show 15 ≤ _; omega)]
    rw [show (j + 1) * 15 + i - (jobV a v.1 v.2.1 v.2.2).length = j * 15 + i by show _ - 15 = _; omega]
    exact h3 i x hx
theorem JobsAt.row {w : World} {B : Nat} {l : List FJob} {v : Value} (h : JobsAt w B l v) : RowR w v l.length 15 (JobCellsAt l) := by
  obtain ⟨vs, h1, h2⟩ := h
  refine RowR.of h1 fun b hb j hj => ?_
  obtain ⟨a, u, k1, k2, k3⟩ := jobsV_at h2 j hj
  refine ⟨a, u.1, u.2.1, u.2.2, k1, fun i x hx => ?_, StrsR.of k2.1, StrsR.of k2.2.1, StrsR.of k2.2.2⟩
  have hi : i < 15 := (List.getElem?_eq_some_iff.1 hx).1
  exact hb _ _ (by omega) (k3 i x hx)
/-- A flow that can be read. -/
structure FlowRd (w : World) (f : Flw) (vi vj vo : Value) : Prop where
  ins : RowR w vi f.ins.length 3 (InAt f.ins)
  jobs : RowR w vj f.jobs.length 15 (JobCellsAt f.jobs)
  outs : RowR w vo f.outs.length 3 (OutAt f.outs)
theorem FlowRd.below {w w' : World} {f : Flw} {vi vj vo : Value} (h : FlowRd w f vi vj vo) (hb : Below w.heap.size w w') : FlowRd w' f vi vj vo :=
  ⟨h.ins.below hb fun _ _ _ hh hl => hh.below hb hl, h.jobs.below hb fun _ _ _ hh hl => hh.below hb hl, h.outs.below hb fun _ _ _ hh hl => hh.below hb hl⟩
theorem FlowRd.of {w : World} {B : Nat} {f : Flw} {vi vj vo : Value} (h : FlowO w B f.ins vi f.jobs vj f.outs vo) : FlowRd w f vi vj vo := ⟨h.ins.row, h.jobs.row, outs_row h.row⟩
end Go.Proofs.YtedflhiflomoeaaGreatDoor

namespace Go.Proofs.YtedflhiflomoeaaGreatDoor
open Go.RowKit

theorem StrsR.sl {w : World} {v : Value} {xs : List By} (h : StrsR w v xs) : ∃ a c, v = .slice a xs.length c ∧ ∀ (j : Nat) (hj : j < xs.length), ∃ b o, a = some ⟨b, o, none⟩ ∧ b < w.heap.size ∧ xs.length ≤ c ∧ w.cell? ⟨b, o + j, none⟩ = some (.string (ba xs[j])) := by
  rcases h with ⟨rfl, rfl⟩ | ⟨b, o, c, rfl, hc, hl, hx⟩
  · exact ⟨none, 0, rfl, fun j hj => absurd hj (by simp)⟩
  · exact ⟨some ⟨b, o, none⟩, c, rfl, fun j hj => ⟨b, o, rfl, hl, hc, hx j hj⟩⟩
theorem ColsR.sl {w : World} {v : Value} {xs : List (By × Int)} (h : ColsR w v xs) : ∃ a c, v = .slice a xs.length c ∧ ∀ (j : Nat) (hj : j < xs.length), ∃ b o, a = some ⟨b, o, none⟩ ∧ b < w.heap.size ∧ xs.length ≤ c ∧ w.cell? ⟨b, o + j * 2, none⟩ = some (.string (ba xs[j].1)) ∧ w.cell? ⟨b, o + j * 2 + 1, none⟩ = some (.int .i64 xs[j].2) := by
  rcases h with ⟨rfl, rfl⟩ | ⟨b, o, c, rfl, hc, hl, hx⟩
  · exact ⟨none, 0, rfl, fun j hj => absurd hj (by simp)⟩
  · exact ⟨some ⟨b, o, none⟩, c, rfl, fun j hj => ⟨b, o, rfl, hl, hc, hx j hj⟩⟩
set_option maxRecDepth 100000 in
set_option maxHeartbeats 1600000 in
theorem sameTexts_any (v u : Value) (xs : List By) (w : World) (hv : StrsR w v xs) (hu : StrsR w u xs) (hn : xs.length ≤ 5000) : Calls Tryz.prog 22 #[v, u] w fun e w' => e = .returned (.bool true) ∧ Below w.heap.size w w' := by
  obtain ⟨a, c, rfl, ha⟩ := hv.sl
  obtain ⟨b, d, rfl, hb⟩ := hu.sl
  have HA := Hid.mk ha
  have HB := Hid.mk hb
  obtain ⟨N, hN⟩ : ∃ N, xs.length = N := ⟨_, rfl⟩
  have HN := Hid.mk hN
  rw [hN] at hn ⊢
  clear hv hu ha hb hN
  go_enter Tryz.func22, Tryz.ntmps22
  go_wp2
  go_loopw [5] (fun i wr => ∃ k : Nat, k ≤ N ∧ i = .int .i64 (k : Nat) ∧ Aside (Below w.heap.size w wr)) (fun i _ => N - (intOf i).toNat)
  case atStart => exact ⟨0, Nat.zero_le _, rfl, Below.refl _ _⟩
  case round =>
    obtain ⟨k, hk, rfl, HW⟩ := hrel
    by_cases hkN : k < N
    · have hkx : k < xs.length := by rw [HN.out]; exact hkN
      obtain ⟨ba1, bo1, rfl, hl1, hc1, k1⟩ := HA.out k hkx
      obtain ⟨ba2, bo2, rfl, hl2, hc2, k2⟩ := HB.out k hkx
      rw [HN.out] at hc1 hc2
      have hkI : (k : Int) < (N : Int) := by omega
      have hk0 : (0 : Int) ≤ (k : Int) := by omega
      have hl1' : ba1 < wr.heap.size := Nat.lt_of_lt_of_le hl1 HW.out.size
      have hl2' : ba2 < wr.heap.size := Nat.lt_of_lt_of_le hl2 HW.out.size
      have e1 := (HW.out.cell (p := ⟨ba1, bo1 + k, none⟩) hl1).trans k1
      have e2 := (HW.out.cell (p := ⟨ba2, bo2 + k, none⟩) hl2).trans k2
      generalize ba xs[k] = X at *
      clear k1 k2 hl1 hl2 hkx
      go_wp2_with fail
      go_quiet (fail)
      go_wp2_with fail
      go_roundw
      case rel => exact ⟨k + 1, hkN, by go_num, below_drewN HW.out _⟩
      case measure => simp [intOf]; omega
    · obtain rfl : k = N := Nat.le_antisymm hk (Nat.le_of_not_lt hkN)
      go_wp2
      go_ret
      exact ⟨rfl, HW.out⟩
set_option maxRecDepth 100000 in
set_option maxHeartbeats 1600000 in
theorem sameCols_any (v u : Value) (xs : List (By × Int)) (w : World) (hv : ColsR w v xs) (hu : ColsR w u xs) (hn : xs.length ≤ 5000) : Calls Tryz.prog 21 #[v, u] w fun e w' => e = .returned (.bool true) ∧ Below w.heap.size w w' := by
  obtain ⟨a, c, rfl, ha⟩ := hv.sl
  obtain ⟨b, d, rfl, hb⟩ := hu.sl
  have HA := Hid.mk ha
  have HB := Hid.mk hb
  obtain ⟨N, hN⟩ : ∃ N, xs.length = N := ⟨_, rfl⟩
  have HN := Hid.mk hN
  rw [hN] at hn ⊢
  clear hv hu ha hb hN
  go_enter Tryz.func21, Tryz.ntmps21
  go_wp2
  go_loopw [5] (fun i wr => ∃ k : Nat, k ≤ N ∧ i = .int .i64 (k : Nat) ∧ Aside (Below w.heap.size w wr)) (fun i _ => N - (intOf i).toNat)
  case atStart => exact ⟨0, Nat.zero_le _, rfl, Below.refl _ _⟩
  case round =>
    obtain ⟨k, hk, rfl, HW⟩ := hrel
    by_cases hkN : k < N
    · have hkx : k < xs.length := by rw [HN.out]; exact hkN
      obtain ⟨ba1, bo1, rfl, hl1, hc1, k1⟩ := HA.out k hkx
      obtain ⟨ba2, bo2, rfl, hl2, hc2, k2⟩ := HB.out k hkx
      rw [HN.out] at hc1 hc2
      have hkI : (k : Int) < (N : Int) := by omega
      have hk0 : (0 : Int) ≤ (k : Int) := by omega
      have hl1' : ba1 < wr.heap.size := Nat.lt_of_lt_of_le hl1 HW.out.size
      have hl2' : ba2 < wr.heap.size := Nat.lt_of_lt_of_le hl2 HW.out.size
      have e1 := (HW.out.cell (p := ⟨ba1, bo1 + k * 2, none⟩) hl1).trans k1.1
      have e2 := (HW.out.cell (p := ⟨ba2, bo2 + k * 2, none⟩) hl2).trans k2.1
      have e3 := (HW.out.cell (p := ⟨ba1, bo1 + k * 2 + 1, none⟩) hl1).trans k1.2
      have e4 := (HW.out.cell (p := ⟨ba2, bo2 + k * 2 + 1, none⟩) hl2).trans k2.2
      generalize ba xs[k].1 = X at *
      generalize xs[k].2 = Y at *
      clear k1 k2 hl1 hl2 hkx
      go_wp2_with fail
      go_quiet (fail)
      go_wp2_with fail
      go_roundw
      case rel => exact ⟨k + 1, hkN, by go_num, below_drewN HW.out _⟩
      case measure => simp [intOf]; omega
    · obtain rfl : k = N := Nat.le_antisymm hk (Nat.le_of_not_lt hkN)
      go_wp2
      go_ret
      exact ⟨rfl, HW.out⟩
/-- A text, so many times. -/
def repL (s : By) (n : Nat) : By := (List.replicate n s).flatten
theorem repL_succ (s : By) (n : Nat) : repL s (n + 1) = repL s n ++ s := by
  unfold repL
  rw [List.replicate_succ', List.flatten_append]
  simp
theorem repL_len (s : By) (n : Nat) : (repL s n).length = n * s.length := by
  unfold repL
  simp
set_option maxRecDepth 100000 in
set_option maxHeartbeats 1600000 in
theorem repeat_any (s : By) (n : Nat) (w : World) (hs : s.length ≤ 100) (hn : n ≤ 1000) : Calls Tryz.prog 4 #[.string (ba s), .int .i64 (n : Nat)] w fun e w' => e = .returned (.string (ba (repL s n))) ∧ w' = w := by
  have hz : (ba s).size = s.length := by show s.toArray.size = _; simp
  have HB : Hid (∀ k, k ≤ n → (ba (repL s k)).size ≤ 100000 ∧ ba (repL s k) ++ ba s = ba (repL s (k + 1))) := Hid.mk fun k hk => ⟨by
    show (repL s k).toArray.size ≤ _
    rw [List.size_toArray, repL_len]
    exact Nat.le_trans (Nat.mul_le_mul (Nat.le_trans hk hn) hs) (by omega), by
    rw [repL_succ]
    apply ByteArray.ext
    simp⟩
  have HZ := Hid.mk hz
  generalize hS : ba s = S at *
  clear hz
  go_enter Tryz.func4, Tryz.ntmps4
  go_wp2
  go_loop [5, 6] (fun o i => ∃ k : Nat, k ≤ n ∧ i = .int .i64 (k : Nat) ∧ o = .string (ba (repL s k))) (fun _ i => n - (intOf i).toNat)
  case atStart => exact ⟨0, Nat.zero_le _, rfl, rfl⟩
  case round =>
    obtain ⟨k, hk, rfl, rfl⟩ := hrel
    by_cases hkn : k < n
    · have hb := (HB.out k hk).1
      have he := (HB.out k hk).2
      have hs2 : S.size ≤ 100 := by rw [HZ.out]; exact hs
      have hkI : (k : Int) < (n : Int) := by omega
      have HE := Hid.mk he
      clear he
      generalize hR : ba (repL s k) = RK at *
      have hov : ¬ 9223372036854775807 < RK.size + S.size := by omega
      go_wp2
      go_round
      case rel => exact ⟨k + 1, hkn, by go_num, by rw [HE.out]⟩
      case measure => simp [intOf]; omega
    · obtain rfl : k = n := Nat.le_antisymm hk (Nat.le_of_not_lt hkn)
      go_wp2
      go_ret
      exact ⟨rfl, rfl⟩
end Go.Proofs.YtedflhiflomoeaaGreatDoor

namespace Go.Proofs.YtedflhiflomoeaaGreatDoor
open Go.RowKit

/-- What may be written: a name, or a value of a right size. -/
def AgOK (a : Ag) : Prop := a.1.length ≤ 1000 ∧ a.2.2.2.length ≤ 1000 ∧ -9223372036854775808 ≤ a.2.2.1 ∧ a.2.2.1 ≤ 9223372036854775807
def ColOK (c : By × Int) : Prop := c.1.length ≤ 900 ∧ (c.2 = 1 ∨ c.2 = 2)
/-- A job that may be written. -/
structure JobOK (j : FJob) : Prop where
  code : j.code = 1 ∨ j.code = 2 ∨ j.code = 3 ∨ j.code = 4 ∨ j.code = 5 ∨ j.code = 6 ∨ j.code = 7 ∨ j.code = 8 ∨ j.code = 9
  il : j.ins.length ≤ 1000
  cl : j.cols.length ≤ 1000
  ol : j.outs.length ≤ 1000
  is : ∀ x ∈ j.ins, x.length ≤ 1000
  cs : ∀ x ∈ j.cols, x.length ≤ 1000
  os : ∀ x ∈ j.outs, x.length ≤ 1000
  l : AgOK j.left
  r : AgOK j.right
  op : j.op.length ≤ 1000
  rt : 0 ≤ j.retry ∧ j.retry ≤ 1000

/-- Tokens whose numbers bear no sign, not too many. -/
def NM (ts : List Tk) : Prop := (∀ t ∈ ts, t.1 = 1 → (t.2.1.head?.map (·.toNat)) ≠ some 45) ∧ ts.length ≤ 900
theorem NM.tail {ts : List Tk} (h : NM ts) : NM ts.tail := ⟨fun t ht => h.1 t (List.mem_of_mem_tail ht), by have := h.2; simp; omega⟩
theorem bnd_ok {α β ε : Type} {p : Except ε α} {f : α → Except ε β} {r : β} (h : p.bind f = .ok r) : ∃ a, p = .ok a ∧ f a = .ok r := by
  cases p with
  | error e => cases h
  | ok a => exact ⟨a, rfl, h⟩
theorem map_ok {α β ε : Type} {p : Except ε α} {f : α → β} {r : β} (h : p.map f = .ok r) : ∃ a, p = .ok a ∧ f a = r := by
  cases p with
  | error e => cases h
  | ok a => exact ⟨a, rfl, by injection h⟩
theorem name_ok {ts : List Tk} {a : By × List Tk} (h : nameP ts = .ok a) (hn : NM ts) : a.1.length ≤ 10 ∧ NM a.2 := by
  unfold nameP at h
  split at h
  · cases h
  · split at h
    · cases h
    · injection h with h
      subst h
      exact ⟨by dsimp only; omega, hn.tail⟩
theorem must_ok {x : By} {ts : List Tk} {a : Nat × List Tk} (h : mustP x ts = .ok a) (hn : NM ts) : NM a.2 := by
  unfold mustP at h
  split at h
  · injection h with h
    subst h
    exact hn.tail
  · cases h
theorem oneOf_ok {xs : List By} {ts : List Tk} {a : By × List Tk} (h : oneOfP xs ts = .ok a) (hn : NM ts) : a.1 ∈ xs ∧ NM a.2 := by
  unfold oneOfP at h
  split at h
  · rename_i hm
    injection h with h
    subst h
    exact ⟨hm, hn.tail⟩
  · cases h
theorem num_ok {most : Int} {ts : List Tk} {a : Int × List Tk} (h : numP most ts = .ok a) (hn : NM ts) : 0 ≤ a.1 ∧ a.1 ≤ most ∧ NM a.2 := by
  unfold numP at h
  split at h
  · cases h
  · rename_i hk
    split at h
    · cases h
    · injection h with h
      subst h
      refine ⟨atoi_pos ?_, by omega, hn.tail⟩
      cases ts with
      | nil => simp [textT]
      | cons t r => exact hn.1 t (by simp) (by simpa [kindT] using hk)
theorem quo_ok {ts : List Tk} {a : By × List Tk} (h : quoP ts = .ok a) (hn : NM ts) : a.1.length ≤ 1000 ∧ NM a.2 := by
  unfold quoP at h
  split at h
  · cases h
  · split at h
    · cases h
    · rename_i hr
      injection h with h
      subst h
      refine ⟨?_, hn.tail⟩
      have := right_small (show rightValueB 2 0 (innerL (textT ts)) = true by simpa using hr)
      dsimp only
      omega
theorem arg_ok {ts : List Tk} {a : Ag × List Tk} (h : argP ts = .ok a) (hn : NM ts) : AgOK a.1 ∧ NM a.2 := by
  unfold argP at h
  split at h
  · obtain ⟨x, hx, rfl⟩ := map_ok h
    have := name_ok hx hn
    exact ⟨⟨by dsimp only; omega, by simp, by dsimp only; omega, by dsimp only; omega⟩, this.2⟩
  · split at h
    · obtain ⟨x, hx, rfl⟩ := map_ok h
      have := quo_ok hx hn
      exact ⟨⟨by simp, this.1, by dsimp only; omega, by dsimp only; omega⟩, this.2⟩
    · split at h
      · obtain ⟨x, hx, rfl⟩ := map_ok h
        have := num_ok hx hn.tail
        exact ⟨⟨by simp, by simp, by dsimp only; omega, by dsimp only; omega⟩, this.2.2⟩
      · obtain ⟨x, hx, rfl⟩ := map_ok h
        have := num_ok hx hn
        exact ⟨⟨by simp, by simp, by dsimp only; omega, by dsimp only; omega⟩, this.2.2⟩
theorem more_ok : ∀ (g : Nat) (acc : List By) (ts : List Tk) (a : List By × List Tk), moreP g acc ts = .ok a → NM ts → (∀ x ∈ acc, x.length ≤ 10) → (∀ x ∈ a.1, x.length ≤ 10) ∧ a.1.length ≤ acc.length + g ∧ NM a.2
  | 0, acc, ts, a, h, hn, ha => by
    unfold moreP at h
    injection h with h
    subst h
    exact ⟨ha, by dsimp only; omega, hn⟩
  | g + 1, acc, ts, a, h, hn, ha => by
    unfold moreP at h
    split at h
    · obtain ⟨x, hx, h⟩ := bnd_ok h
      have h1 := name_ok hx hn.tail
      have h2 := more_ok g _ _ a h h1.2 (by
        intro y hy
        rcases List.mem_append.1 hy with hy | hy
        · exact ha y hy
        · rw [List.mem_singleton.1 hy]; exact h1.1)
      refine ⟨h2.1, ?_, h2.2.2⟩
      have := h2.2.1
      simp at this
      omega
    · injection h with h
      subst h
      exact ⟨ha, by dsimp only; omega, hn⟩
theorem names_ok {ts : List Tk} {a : List By × List Tk} (h : namesP ts = .ok a) (hn : NM ts) : (∀ x ∈ a.1, x.length ≤ 10) ∧ a.1.length ≤ 1000 ∧ NM a.2 := by
  obtain ⟨x, hx, h⟩ := bnd_ok h
  have h1 := name_ok hx hn
  have h2 := more_ok _ _ _ a h h1.2 (by intro y hy; rw [List.mem_singleton.1 hy]; exact h1.1)
  refine ⟨h2.1, ?_, h2.2.2⟩
  have := h2.2.1
  have := h1.2.2
  simp at *
  omega
theorem column_ok {ts : List Tk} {a : (By × Int) × List Tk} (h : columnP ts = .ok a) (hn : NM ts) : (a.1.1.length ≤ 10 ∧ (a.1.2 = 1 ∨ a.1.2 = 2)) ∧ NM a.2 := by
  obtain ⟨x, hx, h⟩ := bnd_ok h
  have h1 := name_ok hx hn
  split at h
  · injection h with h
    subst h
    exact ⟨⟨h1.1, Or.inl rfl⟩, h1.2.tail⟩
  · split at h
    · injection h with h
      subst h
      exact ⟨⟨h1.1, Or.inr rfl⟩, h1.2.tail⟩
    · cases h
theorem retry_ok {ts : List Tk} {a : Int × List Tk} (h : retryP ts = .ok a) (hn : NM ts) : 0 ≤ a.1 ∧ a.1 ≤ 5 ∧ NM a.2 := by
  unfold retryP at h
  split at h
  · exact num_ok h hn.tail
  · injection h with h
    subst h
    exact ⟨by dsimp only; omega, by dsimp only; omega, hn⟩


def InOK (a : FIn) : Prop := a.name.length ≤ 10 ∧ a.cols.length ≤ 1000 ∧ ∀ x ∈ a.cols, ColOK x
def OutOK (a : FOut) : Prop := a.name.length ≤ 10 ∧ a.from_.length ≤ 10
theorem cols_ok : ∀ (g : Nat) (acc : List (By × Int)) (ts : List Tk) (a : List (By × Int) × List Tk), colsP g acc ts = .ok a → NM ts → (∀ x ∈ acc, ColOK x) → (∀ x ∈ a.1, ColOK x) ∧ a.1.length ≤ acc.length + g ∧ NM a.2
  | 0, acc, ts, a, h, hn, ha => by
    unfold colsP at h
    injection h with h
    subst h
    exact ⟨ha, by dsimp only; omega, hn⟩
  | g + 1, acc, ts, a, h, hn, ha => by
    unfold colsP at h
    split at h
    · obtain ⟨x, hx, h⟩ := bnd_ok h
      have h1 := column_ok hx hn.tail
      have h2 := cols_ok g _ _ a h h1.2 (by
        intro y hy
        rcases List.mem_append.1 hy with hy | hy
        · exact ha y hy
        · rw [List.mem_singleton.1 hy]; exact ⟨by have := h1.1.1; omega, h1.1.2⟩)
      refine ⟨h2.1, ?_, h2.2.2⟩
      have := h2.2.1
      simp at this
      omega
    · injection h with h
      subst h
      exact ⟨ha, by dsimp only; omega, hn⟩
theorem input_ok {ts : List Tk} {a : FIn × List Tk} (h : inputP ts = .ok a) (hn : NM ts) : InOK a.1 ∧ NM a.2 := by
  obtain ⟨x1, h1, h⟩ := bnd_ok h
  have k1 := must_ok h1 hn
  obtain ⟨x2, h2, h⟩ := bnd_ok h
  have k2 := name_ok h2 k1
  obtain ⟨x3, h3, h⟩ := bnd_ok h
  have k3 := must_ok h3 k2.2
  obtain ⟨x4, h4, h⟩ := bnd_ok h
  have k4 := column_ok h4 k3
  obtain ⟨x5, h5, h⟩ := bnd_ok h
  have k5 := cols_ok _ _ _ x5 h5 k4.2 (by intro y hy; rw [List.mem_singleton.1 hy]; exact ⟨by have := k4.1.1; omega, k4.1.2⟩)
  obtain ⟨x6, h6, h⟩ := bnd_ok h
  have k6 := must_ok h6 k5.2.2
  injection h with h
  subst h
  refine ⟨⟨k2.1, ?_, k5.1⟩, k6⟩
  have := k5.2.1
  have := k4.2.2
  simp at *
  omega
theorem code_ok {ts : List Tk} {a : Int × List Tk} (h : codeP ts = .ok a) (hn : NM ts) : (a.1 = 1 ∨ a.1 = 2 ∨ a.1 = 3 ∨ a.1 = 4 ∨ a.1 = 5 ∨ a.1 = 6 ∨ a.1 = 7 ∨ a.1 = 8 ∨ a.1 = 9) ∧ NM a.2 := by
  refine ⟨code_range (ts' := a.2) (by rw [h]), ?_⟩
  unfold codeP at h
  split at h
  · injection h with h
    subst h
    exact hn.tail
  · cases h
theorem op_len {xs : List By} {x : By} (hx : ∀ y ∈ xs, y.length ≤ 1000) (h : x ∈ xs) : x.length ≤ 1000 := hx x h
theorem agg0_ok : AgOK agg0 := by unfold AgOK agg0; decide
theorem one_len {a : By} (h : a.length ≤ 10) : ∀ x ∈ [a], x.length ≤ 1000 := by intro x hx; rw [List.mem_singleton.1 hx]; omega
theorem two_len {a b : By} (h : a.length ≤ 10) (h' : b.length ≤ 10) : ∀ x ∈ [a, b], x.length ≤ 1000 := by intro x hx; simp at hx; rcases hx with rfl | rfl <;> omega
theorem nil_len : ∀ x ∈ ([] : List By), x.length ≤ 1000 := by simp
theorem name_ag {a : By} (h : a.length ≤ 10) : AgOK (a, 0, 0, []) := ⟨by dsimp only; omega, by simp, by dsimp only; omega, by dsimp only; omega⟩
theorem body_ok {at_ : Nat} {outs : List By} {retry : Int} {ts : List Tk} {a : FJob × List Tk} (h : bodyP at_ outs retry ts = .ok a) (hn : NM ts) (ho : ∀ x ∈ outs, x.length ≤ 1000) (hol : outs.length ≤ 1000) (hr : 0 ≤ retry ∧ retry ≤ 1000) : JobOK a.1 ∧ NM a.2 := by
  obtain ⟨c, h1, h⟩ := bnd_ok h
  have k1 := code_ok h1 hn
  obtain ⟨i, h2, h⟩ := bnd_ok h
  have k2 := name_ok h2 k1.2
  split at h
  · obtain ⟨x3, h3, h⟩ := bnd_ok h
    have k3 := must_ok h3 k2.2
    obtain ⟨x4, h4, h⟩ := bnd_ok h
    have k4 := name_ok h4 k3
    obtain ⟨x5, h5, h⟩ := bnd_ok h
    have k5 := oneOf_ok h5 k4.2
    obtain ⟨x6, h6, h⟩ := bnd_ok h
    have k6 := arg_ok h6 k5.2
    injection h with h
    subst h
    exact ⟨⟨k1.1, by simp, by simp, hol, one_len k2.1, nil_len, ho, name_ag k4.1, k6.1, op_len (by decide) k5.1, hr⟩, k6.2⟩
  · split at h
    · obtain ⟨x3, h3, h⟩ := bnd_ok h
      have k3 := must_ok h3 k2.2
      obtain ⟨x4, h4, h⟩ := bnd_ok h
      have k4 := name_ok h4 k3
      obtain ⟨x5, h5, h⟩ := bnd_ok h
      have k5 := must_ok h5 k4.2
      obtain ⟨x6, h6, h⟩ := bnd_ok h
      have k6 := arg_ok h6 k5
      obtain ⟨x7, h7, h⟩ := bnd_ok h
      have k7 := oneOf_ok h7 k6.2
      obtain ⟨x8, h8, h⟩ := bnd_ok h
      have k8 := arg_ok h8 k7.2
      injection h with h
      subst h
      exact ⟨⟨k1.1, by simp, by simp, hol, one_len k2.1, one_len k4.1, ho, k6.1, k8.1, op_len (by decide) k7.1, hr⟩, k8.2⟩
    · split at h
      · obtain ⟨x3, h3, h⟩ := bnd_ok h
        have k3 := must_ok h3 k2.2
        obtain ⟨x4, h4, h⟩ := bnd_ok h
        have k4 := names_ok h4 k3
        injection h with h
        subst h
        exact ⟨⟨k1.1, by simp, k4.2.1, hol, one_len k2.1, fun x hx => by have := k4.1 x hx; omega, ho, agg0_ok, agg0_ok, by simp, hr⟩, k4.2.2⟩
      · split at h
        · obtain ⟨x3, h3, h⟩ := bnd_ok h
          have k3 := must_ok h3 k2.2
          obtain ⟨x4, h4, h⟩ := bnd_ok h
          have k4 := name_ok h4 k3
          injection h with h
          subst h
          exact ⟨⟨k1.1, by simp, by simp, hol, two_len k2.1 k4.1, nil_len, ho, agg0_ok, agg0_ok, by simp, hr⟩, k4.2⟩
        · split at h
          · obtain ⟨x3, h3, h⟩ := bnd_ok h
            have k3 := must_ok h3 k2.2
            obtain ⟨x4, h4, h⟩ := bnd_ok h
            have k4 := name_ok h4 k3
            obtain ⟨x5, h5, h⟩ := bnd_ok h
            have k5 := must_ok h5 k4.2
            obtain ⟨x6, h6, h⟩ := bnd_ok h
            have k6 := name_ok h6 k5
            obtain ⟨x7, h7, h⟩ := bnd_ok h
            have k7 := must_ok h7 k6.2
            obtain ⟨x8, h8, h⟩ := bnd_ok h
            have k8 := name_ok h8 k7
            injection h with h
            subst h
            exact ⟨⟨k1.1, by simp, by simp, hol, two_len k2.1 k6.1, two_len k4.1 k8.1, ho, agg0_ok, agg0_ok, by simp, hr⟩, k8.2⟩
          · split at h
            · obtain ⟨x3, h3, h⟩ := bnd_ok h
              have k3 := must_ok h3 k2.2
              obtain ⟨x4, h4, h⟩ := bnd_ok h
              have k4 := name_ok h4 k3
              obtain ⟨x5, h5, h⟩ := bnd_ok h
              have k5 := oneOf_ok h5 k4.2
              obtain ⟨x6, h6, h⟩ := bnd_ok h
              have k6 := name_ok h6 k5.2
              injection h with h
              subst h
              exact ⟨⟨k1.1, by simp, by simp, hol, one_len k2.1, two_len k4.1 k6.1, ho, agg0_ok, agg0_ok, op_len (by decide) k5.1, hr⟩, k6.2⟩
            · injection h with h
              subst h
              exact ⟨⟨k1.1, by simp, by simp, hol, one_len k2.1, nil_len, ho, agg0_ok, agg0_ok, by simp, hr⟩, k2.2⟩
theorem job_ok {ts : List Tk} {a : FJob × List Tk} (h : jobP ts = .ok a) (hn : NM ts) : JobOK a.1 ∧ NM a.2 := by
  obtain ⟨x1, h1, h⟩ := bnd_ok h
  have k1 := must_ok h1 hn
  obtain ⟨x2, h2, h⟩ := bnd_ok h
  have k2 := names_ok h2 k1
  obtain ⟨x3, h3, h⟩ := bnd_ok h
  have k3 := retry_ok h3 k2.2.2
  obtain ⟨x4, h4, h⟩ := bnd_ok h
  have k4 := must_ok h4 k3.2.2
  obtain ⟨x5, h5, h⟩ := bnd_ok h
  have k5 := body_ok h5 k4 (fun x hx => by have := k2.1 x hx; omega) k2.2.1 ⟨k3.1, by have := k3.2.1; omega⟩
  obtain ⟨x6, h6, h⟩ := bnd_ok h
  have k6 := must_ok h6 k5.2
  injection h with h
  subst h
  exact ⟨k5.1, k6⟩
theorem publish_ok {ts : List Tk} {a : FOut × List Tk} (h : publishP ts = .ok a) (hn : NM ts) : OutOK a.1 ∧ NM a.2 := by
  obtain ⟨x1, h1, h⟩ := bnd_ok h
  have k1 := must_ok h1 hn
  obtain ⟨x2, h2, h⟩ := bnd_ok h
  have k2 := name_ok h2 k1
  obtain ⟨x3, h3, h⟩ := bnd_ok h
  have k3 := must_ok h3 k2.2
  obtain ⟨x4, h4, h⟩ := bnd_ok h
  have k4 := name_ok h4 k3
  obtain ⟨x5, h5, h⟩ := bnd_ok h
  have k5 := must_ok h5 k4.2
  injection h with h
  subst h
  exact ⟨⟨k2.1, k4.1⟩, k5⟩
theorem parts_ok {α : Type} {x : By} {p : List Tk → PE α} {Q : α → Prop} (hp : ∀ ts a, p ts = .ok a → NM ts → Q a.1 ∧ NM a.2) : ∀ (g : Nat) (acc : List α) (ts : List Tk) (a : List α × List Tk), partsP x p g acc ts = .ok a → NM ts → (∀ y ∈ acc, Q y) → acc.length ≤ 16 → (∀ y ∈ a.1, Q y) ∧ a.1.length ≤ 16 ∧ NM a.2
  | 0, acc, ts, a, h, hn, ha, hl => by
    unfold partsP at h
    injection h with h
    subst h
    exact ⟨ha, hl, hn⟩
  | g + 1, acc, ts, a, h, hn, ha, hl => by
    unfold partsP at h
    split at h
    · split at h
      · cases h
      · rename_i h16
        obtain ⟨y, hy, h⟩ := bnd_ok h
        have h1 := hp _ _ hy hn
        exact parts_ok hp g _ _ a h h1.2 (by
          intro z hz
          rcases List.mem_append.1 hz with hz | hz
          · exact ha z hz
          · rw [List.mem_singleton.1 hz]; exact h1.1) (by simp; omega)
    · injection h with h
      subst h
      exact ⟨ha, hl, hn⟩
structure FlwOK (f : Flw) : Prop where
  ins : ∀ a ∈ f.ins, InOK a
  jobs : ∀ a ∈ f.jobs, JobOK a
  outs : ∀ a ∈ f.outs, OutOK a
  il : f.ins.length ≤ 16
  jl : f.jobs.length ≤ 16
  ol : f.outs.length ≤ 16
theorem flow_ok {ts : List Tk} {f : Flw} (h : flowP ts = .ok f) (hn : NM ts) : FlwOK f := by
  obtain ⟨x1, h1, h⟩ := bnd_ok h
  have k1 := parts_ok (Q := InOK) (fun ts a h hn => input_ok h hn) _ _ _ x1 h1 hn (by simp) (by simp)
  obtain ⟨x2, h2, h⟩ := bnd_ok h
  have k2 := parts_ok (Q := JobOK) (fun ts a h hn => job_ok h hn) _ _ _ x2 h2 k1.2.2 (by simp) (by simp)
  obtain ⟨x3, h3, h⟩ := bnd_ok h
  have k3 := parts_ok (Q := OutOK) (fun ts a h hn => publish_ok h hn) _ _ _ x3 h3 k2.2.2 (by simp) (by simp)
  unfold lastP at h
  split at h
  · cases h
  · split at h
    · cases h
    · split at h
      · cases h
      · injection h with h
        subst h
        exact ⟨k1.1, k2.1, k3.1, k1.2.1, k2.2.1, k3.2.1⟩
theorem parse_ok {l : By} {f : Flw} (hl : l.length ≤ 1000000) (h : parseF l = .ok f) : FlwOK f := by
  obtain ⟨ts, h1, h⟩ := bnd_ok h
  have hg := tokens_good hl h1
  refine flow_ok h ⟨fun t ht => (hg.small t ht).2.2.2.2, ?_⟩
  unfold tokensL at h1
  cases hk : toksL (l.length + 1) l 0 0 with
  | error e => rw [hk] at h1; cases h1
  | ok us =>
    rw [hk] at h1
    simp only [Except.ok.injEq] at h1
    subst h1
    obtain ⟨h2, -⟩ := toks_good _ l 0 0 us l.length hk (by omega) (by omega)
    simp
    omega
end Go.Proofs.YtedflhiflomoeaaGreatDoor

namespace Go.Proofs.YtedflhiflomoeaaGreatDoor
open Go.RowKit

theorem RowR.sl {w : World} {v : Value} {n z : Nat} {P : Nat → World → Nat → Nat → Prop} (h : RowR w v n z P) : ∃ a c, v = .slice a n c ∧ ∀ j, j < n → ∃ b, a = some ⟨b, 0, none⟩ ∧ b < w.heap.size ∧ n ≤ c ∧ P j w b (j * z) := by
  rcases h with ⟨rfl, rfl⟩ | ⟨b, c, rfl, hc, hl, hx⟩
  · exact ⟨none, 0, rfl, fun j hj => absurd hj (by omega)⟩
  · exact ⟨some ⟨b, 0, none⟩, c, rfl, fun j hj => ⟨b, rfl, hl, hc, hx j hj⟩⟩
/-- The two flows, boxed. -/
structure SF (w : World) (H : Nat) (f : Flw) (vi vj vo ui uj uo : Value) : Prop where
  a : Box w H [vi, vj, vo]
  b : Box w (H + 1) [ui, uj, uo]
  x : FlowRd w f vi vj vo
  y : FlowRd w f ui uj uo
theorem SF.below {w w' : World} {H : Nat} {f : Flw} {vi vj vo ui uj uo : Value} (h : SF w H f vi vj vo ui uj uo) (hb : Below w.heap.size w w') : SF w' H f vi vj vo ui uj uo := ⟨h.a.below hb, h.b.below hb, h.x.below hb, h.y.below hb⟩
theorem at_in {f : Flw} {k : Nat} {w : World} {b o b' o' : Nat} (h : InAt f.ins k w b o) (g : InAt f.ins k w b' o') (ok : FlwOK f) : ∃ (a : FIn) (v u : Value), w.cell? ⟨b, o, none⟩ = some (.int .i64 (a.at_ : Nat)) ∧ w.cell? ⟨b, o + 1, none⟩ = some (.string (ba a.name)) ∧ w.cell? ⟨b, o + 2, none⟩ = some v ∧ w.cell? ⟨b', o', none⟩ = some (.int .i64 (a.at_ : Nat)) ∧ w.cell? ⟨b', o' + 1, none⟩ = some (.string (ba a.name)) ∧ w.cell? ⟨b', o' + 2, none⟩ = some u ∧ ColsR w v a.cols ∧ ColsR w u a.cols ∧ a.cols.length ≤ 5000 := by
  obtain ⟨a, v, h1, h2, h3, h4, h5⟩ := h
  obtain ⟨a', u, g1, g2, g3, g4, g5⟩ := g
  obtain rfl : a = a' := Option.some.inj (h1.symm.trans g1)
  have hm := ok.ins a (List.mem_of_getElem? h1)
  exact ⟨a, v, u, h2, h3, h4, g2, g3, g4, h5, g5, by have := hm.2.1; omega⟩
theorem at_out {f : Flw} {k : Nat} {w : World} {b o b' o' : Nat} (h : OutAt f.outs k w b o) (g : OutAt f.outs k w b' o') : ∃ (a : FOut), w.cell? ⟨b, o, none⟩ = some (.int .i64 (a.at_ : Nat)) ∧ w.cell? ⟨b, o + 1, none⟩ = some (.string (ba a.name)) ∧ w.cell? ⟨b, o + 2, none⟩ = some (.string (ba a.from_)) ∧ w.cell? ⟨b', o', none⟩ = some (.int .i64 (a.at_ : Nat)) ∧ w.cell? ⟨b', o' + 1, none⟩ = some (.string (ba a.name)) ∧ w.cell? ⟨b', o' + 2, none⟩ = some (.string (ba a.from_)) := by
  obtain ⟨a, h1, h2, h3, h4⟩ := h
  obtain ⟨a', g1, g2, g3, g4⟩ := g
  obtain rfl : a = a' := Option.some.inj (h1.symm.trans g1)
  exact ⟨a, h2, h3, h4, g2, g3, g4⟩
theorem at_job {f : Flw} {k : Nat} {w : World} {b o b' o' : Nat} (h : JobCellsAt f.jobs k w b o) (g : JobCellsAt f.jobs k w b' o') (ok : FlwOK f) : ∃ (a : FJob) (vo vi vc uo ui uc : Value), w.rangeAt b o (jobV a vo vi vc) ∧ w.rangeAt b' o' (jobV a uo ui uc) ∧ StrsR w vo a.outs ∧ StrsR w vi a.ins ∧ StrsR w vc a.cols ∧ StrsR w uo a.outs ∧ StrsR w ui a.ins ∧ StrsR w uc a.cols ∧ a.outs.length ≤ 5000 ∧ a.ins.length ≤ 5000 ∧ a.cols.length ≤ 5000 := by
  obtain ⟨a, vo, vi, vc, h1, h2, h3, h4, h5⟩ := h
  obtain ⟨a', uo, ui, uc, g1, g2, g3, g4, g5⟩ := g
  obtain rfl : a = a' := Option.some.inj (h1.symm.trans g1)
  have hm := ok.jobs a (List.mem_of_getElem? h1)
  exact ⟨a, vo, vi, vc, uo, ui, uc, fun j v hv => h2 j v hv, fun j v hv => g2 j v hv, h3, h4, h5, g3, g4, g5, by have := hm.ol; omega, by have := hm.il; omega, by have := hm.cl; omega⟩
theorem rangeAt_below {w w' : World} {b o : Nat} {cs : List Value} (h : w.rangeAt b o cs) (hb : Below w.heap.size w w') (hl : b < w.heap.size) : w'.rangeAt b o cs := fun j v hv => (hb.cell (p := ⟨b, o + j, none⟩) hl).trans (h j v hv)
theorem step_store {P : Program} {ops : Array Oper} {o : Oper} {a : Act} {w : World} {K : Act → World → Prop} {Q : Exit → Act → World → Prop} {E : Prop} (hgd : o.guard = none) (ty : TypeId) (x y : Operand) (ho : o.op = .store ty x y)
    (b f : Nat) (cells : Array Value) (hx : a.eval x = .pointer (some ⟨b, f, none⟩)) (hy : a.eval y = .agg cells) (ht : w.there b f cells.size) (hi : (P.info? ty).map (·.size) = some cells.size) (h1 : cells.all (·.oneCell') = true)
    (h : K (a.put o.dst undef) (w.setCells b f cells.toList)) : if Region.wanted o (yielded ops a.tmps) = true then Oper.wp P o a w K Q else E := by
  rw [if_pos (by simp [Region.wanted, hgd])]
  exact wp_store_mid ty x y ho b f cells hx hy ht hi h1 h
/-- What region 11 reads. -/
def S11 (H ab bb o : Nat) (x y : Value) (JL KL : List Value) (V : World) : Prop := V.cell? ⟨H, 1, none⟩ = some x ∧ V.cell? ⟨H + 1, 1, none⟩ = some y ∧ V.rangeAt ab o JL ∧ V.rangeAt bb o KL
theorem S11.of {H ab bb o : Nat} {x y : Value} {JL KL : List Value} {V V' : World} (h : S11 H ab bb o x y JL KL V) (hb : But V.heap.size V V') (h1 : H + 1 < V.heap.size) (ha : ab < V.heap.size) (hc : bb < V.heap.size) : S11 H ab bb o x y JL KL V' := by
  have hB := hb.below (B := V.heap.size) (Nat.le_refl _) (Nat.le_refl _)
  exact ⟨(hB.cell (p := ⟨H, 1, none⟩) (by show H < _; omega)).trans h.1, (hB.cell (p := ⟨H + 1, 1, none⟩) h1).trans h.2.1, rangeAt_below h.2.2.1 hB ha, rangeAt_below h.2.2.2 hB hc⟩
theorem Box.other_sets {k k' : Nat} {vs : List Value} (hk : k ≠ k') : ∀ (us : List Value) (o : Nat) (w : World), Box w k vs → Box (w.setCells k' o us) k vs
  | [], _, _, h => h
  | u :: us, o, w, h => Box.other_sets hk us (o + 1) _ (h.other o u hk)
set_option maxRecDepth 100000 in
set_option maxHeartbeats 12800000 in
theorem sameFlow_any (f : Flw) (vi vj vo ui uj uo : Value) (w : World) (hx : FlowRd w f vi vj vo) (hy : FlowRd w f ui uj uo) (ok : FlwOK f) : Calls Tryz.prog 8 #[.agg #[vi, vj, vo], .agg #[ui, uj, uo]] w fun e w' => e = .returned (.bool true) ∧ Below w.heap.size w w' := by
  obtain ⟨a1, c1, rfl, A1⟩ := hx.ins.sl
  obtain ⟨a2, c2, rfl, A2⟩ := hx.jobs.sl
  obtain ⟨a3, c3, rfl, A3⟩ := hx.outs.sl
  obtain ⟨b1, d1, rfl, B1⟩ := hy.ins.sl
  obtain ⟨b2, d2, rfl, B2⟩ := hy.jobs.sl
  obtain ⟨b3, d3, rfl, B3⟩ := hy.outs.sl
  have hL := And.intro ok.il (And.intro ok.jl ok.ol)
  obtain ⟨W, hW⟩ : ∃ x, (w.alloc (.cells #[.slice a1 f.ins.length c1, .slice a2 f.jobs.length c2, .slice a3 f.outs.length c3] 31)).alloc (.cells #[.slice b1 f.ins.length d1, .slice b2 f.jobs.length d2, .slice b3 f.outs.length d3] 31) = x := ⟨_, rfl⟩
  have hbW : Below w.heap.size w W := by rw [← hW]; exact bel_box (below_box _ _) _
  have S0 : Hid (SF W w.heap.size f (.slice a1 f.ins.length c1) (.slice a2 f.jobs.length c2) (.slice a3 f.outs.length c3) (.slice b1 f.ins.length d1) (.slice b2 f.jobs.length d2) (.slice b3 f.outs.length d3)) := Hid.mk (by
    refine ⟨?_, ?_, hx.below hbW, hy.below hbW⟩
    · rw [← hW]; exact (Box.new w _ _ _ rfl).below (below_box _ _)
    · rw [← hW]; exact Box.new _ _ _ _ (World.size_alloc _ _).symm)
  have HBW := Hid.mk hbW
  have OK := Hid.mk ok
  clear hx hy ok hbW A1 A2 A3 B1 B2 B3
  obtain ⟨N1, hN1⟩ : ∃ n, f.ins.length = n := ⟨_, rfl⟩
  obtain ⟨N2, hN2⟩ : ∃ n, f.jobs.length = n := ⟨_, rfl⟩
  obtain ⟨N3, hN3⟩ : ∃ n, f.outs.length = n := ⟨_, rfl⟩
  rw [hN1, hN2, hN3] at hL
  rw [hN1, hN2, hN3] at hW S0
  rw [hN1, hN2, hN3]
  have HN := Hid.mk (And.intro hN1 (And.intro hN2 hN3))
  clear hN1 hN2 hN3
  have sa0 := S0.out.a.cell 0 rfl
  have sa1 := S0.out.a.cell 1 rfl
  have sa2 := S0.out.a.cell 2 rfl
  have sb0 := S0.out.b.cell 0 rfl
  have sb1 := S0.out.b.cell 1 rfl
  have sb2 := S0.out.b.cell 2 rfl
  have sla := S0.out.a.lt
  have slb := S0.out.b.lt
  go_enter Tryz.func8, Tryz.ntmps8
  go_wp2_with fail
  clear hW sa0 sa1 sa2 sb0 sb1 sb2 sla slb
  go_loopw [5] (fun ix wr => ∃ k : Nat, k ≤ N1 ∧ ix = .int .i64 (k : Nat) ∧ Aside (SF wr w.heap.size f (.slice a1 N1 c1) (.slice a2 N2 c2) (.slice a3 N3 c3) (.slice b1 N1 d1) (.slice b2 N2 d2) (.slice b3 N3 d3) ∧ Below w.heap.size w wr)) (fun ix _ => N1 - (intOf ix).toNat)
  case atStart => exact ⟨0, Nat.zero_le _, rfl, S0.out, HBW.out⟩
  case round =>
    clear S0 HBW
    obtain ⟨k, hk, rfl, HH⟩ := hrel
    have sa := HH.out.1.a.cell 0 rfl
    have sb := HH.out.1.b.cell 0 rfl
    have sla := HH.out.1.a.lt
    have slb := HH.out.1.b.lt
    by_cases hkN : k < N1
    · as_aux_lemma =>
        have hkI : (k : Int) < (N1 : Int) := by omega
        have hk0 : (0 : Int) ≤ (k : Int) := by omega
        have hx := HH.out.1.x.ins
        have hy := HH.out.1.y.ins
        rw [HN.out.1] at hx hy
        obtain ⟨ga, gc, hge, G1⟩ := hx.sl
        obtain ⟨ha, hc, hhe, G2⟩ := hy.sl
        injection hge with e1 _ e2
        subst e1 e2
        injection hhe with e1 _ e2
        subst e1 e2
        obtain ⟨ab, rfl, hl1, hcp1, p1⟩ := G1 k hkN
        obtain ⟨bb, rfl, hl2, hcp2, p2⟩ := G2 k hkN
        clear hx hy G1 G2
        obtain ⟨a, v, u, k1, k2, k3, l1, l2, l3, hv, hu, hcl⟩ := at_in p1 p2 OK.out
        have C1 : ∀ d os, Calls Tryz.prog 21 #[v, u] (Sort.grow (redrawn wr d) os) fun e w'' => e = .returned (.bool true) ∧ ∃ p : Regrown, w'' = Sort.grow (redrawn wr p.d) p.os := fun d os => Calls.regrown_of (sameCols_any v u a.cols _ (hv.below (below_regrown wr d os)) (hu.below (below_regrown wr d os)) hcl)
        have q1 : ∀ d os, (Sort.grow (redrawn wr d) os).cell? ⟨w.heap.size, 0, none⟩ = _ := fun d os => cell_regrown sa d os
        have q2 : ∀ d os, (Sort.grow (redrawn wr d) os).cell? ⟨w.heap.size + 1, 0, none⟩ = _ := fun d os => cell_regrown sb d os
        have q3 : ∀ d os, (Sort.grow (redrawn wr d) os).cell? ⟨ab, k * 3, none⟩ = _ := fun d os => cell_regrown k1 d os
        have q4 : ∀ d os, (Sort.grow (redrawn wr d) os).cell? ⟨ab, k * 3 + 1, none⟩ = _ := fun d os => cell_regrown k2 d os
        have q5 : ∀ d os, (Sort.grow (redrawn wr d) os).cell? ⟨ab, k * 3 + 2, none⟩ = _ := fun d os => cell_regrown k3 d os
        have q6 : ∀ d os, (Sort.grow (redrawn wr d) os).cell? ⟨bb, k * 3, none⟩ = _ := fun d os => cell_regrown l1 d os
        have q7 : ∀ d os, (Sort.grow (redrawn wr d) os).cell? ⟨bb, k * 3 + 1, none⟩ = _ := fun d os => cell_regrown l2 d os
        have q8 : ∀ d os, (Sort.grow (redrawn wr d) os).cell? ⟨bb, k * 3 + 2, none⟩ = _ := fun d os => cell_regrown l3 d os
        generalize ba a.name = NM at *
        generalize ((a.at_ : Nat) : Int) = AT at *
        clear hv hu p1 p2 hcl k1 k2 k3 l1 l2 l3
        go_wp2_with fail
        refine wp_region_quiet_below (by kernel_rfl) (by kernel_rfl) ?_
        repeat (any_goals (first | go_big_quiet_step (exact C1 _ _) | quiet_step (exact C1 _ _)))
        refine wpQuiet_nil ?_
        intro _ hw'
        obtain ⟨⟨dq, osq⟩, hw''⟩ := hw'
        subst hw''
        have hb10 := Hid.mk (below_regrown wr dq osq)
        clear C1 q1 q2 q3 q4 q5 q6 q7 q8 sa sb sla slb
        generalize Sort.grow (redrawn wr dq) osq = w10 at *
        go_wp2_with fail
        go_roundw
        case rel => exact ⟨k + 1, hkN, by go_num, HH.out.1.below hb10.out, bel_then HH.out.2 hb10.out⟩
        case measure => simp [intOf]; omega

    · obtain rfl : N1 = k := Nat.le_antisymm (Nat.le_of_not_lt hkN) hk
      have S1 := Hid.mk HH.out.1
      have B1 := Hid.mk HH.out.2
      clear HH
      go_wp2_with fail
      go_loopw [6] (fun ix wr => ∃ k : Nat, k ≤ N2 ∧ ix = .int .i64 (k : Nat) ∧ Aside (SF wr w.heap.size f (.slice a1 N1 c1) (.slice a2 N2 c2) (.slice a3 N3 c3) (.slice b1 N1 d1) (.slice b2 N2 d2) (.slice b3 N3 d3) ∧ Below w.heap.size w wr)) (fun ix _ => N2 - (intOf ix).toNat)
      case atStart => exact ⟨0, Nat.zero_le _, rfl, S1.out, B1.out⟩
      case round =>
        clear S1 B1
        obtain ⟨k, hk, rfl, HH⟩ := hrel
        have sa := HH.out.1.a.cell 1 rfl
        have sb := HH.out.1.b.cell 1 rfl
        have sla := HH.out.1.a.lt
        have slb := HH.out.1.b.lt
        by_cases hkN : k < N2
        · as_aux_lemma =>
            have hkI : (k : Int) < (N2 : Int) := by omega
            have hk0 : (0 : Int) ≤ (k : Int) := by omega
            have hx := HH.out.1.x.jobs
            have hy := HH.out.1.y.jobs
            rw [HN.out.2.1] at hx hy
            obtain ⟨ga, gc, hge, G1⟩ := hx.sl
            obtain ⟨ha, hc, hhe, G2⟩ := hy.sl
            injection hge with e1 _ e2
            subst e1 e2
            injection hhe with e1 _ e2
            subst e1 e2
            obtain ⟨ab, rfl, hl1, hcp1, p1⟩ := G1 k hkN
            obtain ⟨bb, rfl, hl2, hcp2, p2⟩ := G2 k hkN
            clear hx hy G1 G2
            obtain ⟨a, vo, vi, vc, uo, ui, uc, r1, r2, ho1, hi1, hc1, ho2, hi2', hc2', hlo, hli, hlc⟩ := at_job p1 p2 OK.out
            obtain ⟨oa1, oc1, rfl, -⟩ := ho1.sl
            obtain ⟨ia1, ic1, rfl, -⟩ := hi1.sl
            obtain ⟨ca1, cc1, rfl, -⟩ := hc1.sl
            obtain ⟨oa2, oc2, rfl, -⟩ := ho2.sl
            obtain ⟨ia2, ic2, rfl, -⟩ := hi2'.sl
            obtain ⟨ca2, cc2, rfl, -⟩ := hc2'.sl
            have HSO := Hid.mk (And.intro ho1 ho2)
            have HSI := Hid.mk (And.intro hi1 hi2')
            have HSC := Hid.mk (And.intro hc1 hc2')
            have HLN := Hid.mk (And.intro hlo (And.intro hli hlc))
            clear ho1 ho2 hi1 hi2' hc1 hc2' hlo hli hlc p1 p2
            have hinf : (Tryz.prog.info? 61).map (·.size) = some 15 := by kernel_rfl
            have HIN := Hid.mk hinf
            clear hinf
            obtain ⟨JL, hJL⟩ : ∃ x, jobV a (.slice oa1 a.outs.length oc1) (.slice ia1 a.ins.length ic1) (.slice ca1 a.cols.length cc1) = x := ⟨_, rfl⟩
            obtain ⟨KL, hKL⟩ : ∃ x, jobV a (.slice oa2 a.outs.length oc2) (.slice ia2 a.ins.length ic2) (.slice ca2 a.cols.length cc2) = x := ⟨_, rfl⟩
            rw [hJL] at r1
            rw [hKL] at r2
            have HONJ : Hid (JL.toArray.all (·.oneCell') = true ∧ JL.length = 15) := Hid.mk (by rw [← hJL]; exact ⟨by simp [jobV, Value.oneCell'], rfl⟩)
            have HONK : Hid (KL.toArray.all (·.oneCell') = true ∧ KL.length = 15) := Hid.mk (by rw [← hKL]; exact ⟨by simp [jobV, Value.oneCell'], rfl⟩)
            have HIJL : Hid ((Tryz.prog.info? 61).map (·.size) = some JL.length) := Hid.mk (by rw [HONJ.out.2]; exact HIN.out)
            have HIKL : Hid ((Tryz.prog.info? 61).map (·.size) = some KL.length) := Hid.mk (by rw [HONK.out.2]; exact HIN.out)
            have HJL := Hid.mk hJL
            have HKL := Hid.mk hKL
            have HS0 : Hid (S11 w.heap.size ab bb (k * 15) (.slice (some ⟨ab, 0, none⟩) N2 c2) (.slice (some ⟨bb, 0, none⟩) N2 d2) JL KL wr) := Hid.mk ⟨sa, sb, r1, r2⟩
            have HLT := Hid.mk (And.intro slb (And.intro hl1 hl2))
            have HSD : Hid (∀ V, But wr.heap.size wr V → S11 w.heap.size ab bb (k * 15) (.slice (some ⟨ab, 0, none⟩) N2 c2) (.slice (some ⟨bb, 0, none⟩) N2 d2) JL KL V) := Hid.mk fun V h => HS0.out.of h HLT.out.1 HLT.out.2.1 HLT.out.2.2
            have HTJ : Hid (∀ V b, Box V b [.int .i64 0, .int .i64 0, .slice none 0 0, .slice none 0 0, .slice none 0 0, .string ⟨#[]⟩, .string ⟨#[]⟩, .int .i64 0, .int .i64 0, .string ⟨#[]⟩, .string ⟨#[]⟩, .int .i64 0, .int .i64 0, .string ⟨#[]⟩, .int .i64 0] → V.there b 0 JL.toArray.size) := Hid.mk fun V b h => by rw [show JL.toArray.size = 15 from HONJ.out.2]; exact h.there
            have HTK : Hid (∀ V b, Box V b [.int .i64 0, .int .i64 0, .slice none 0 0, .slice none 0 0, .slice none 0 0, .string ⟨#[]⟩, .string ⟨#[]⟩, .int .i64 0, .int .i64 0, .string ⟨#[]⟩, .string ⟨#[]⟩, .int .i64 0, .int .i64 0, .string ⟨#[]⟩, .int .i64 0] → V.there b 0 KL.toArray.size) := Hid.mk fun V b h => by rw [show KL.toArray.size = 15 from HONK.out.2]; exact h.there
            have HFJ : Hid (∀ V b, Box V b [.int .i64 0, .int .i64 0, .slice none 0 0, .slice none 0 0, .slice none 0 0, .string ⟨#[]⟩, .string ⟨#[]⟩, .int .i64 0, .int .i64 0, .string ⟨#[]⟩, .string ⟨#[]⟩, .int .i64 0, .int .i64 0, .string ⟨#[]⟩, .int .i64 0] → Box (V.setCells b 0 JL.toArray.toList) b JL) := Hid.mk fun V b h => h.full (by rw [HONJ.out.2]; rfl)
            have HFK : Hid (∀ V b, Box V b [.int .i64 0, .int .i64 0, .slice none 0 0, .slice none 0 0, .slice none 0 0, .string ⟨#[]⟩, .string ⟨#[]⟩, .int .i64 0, .int .i64 0, .string ⟨#[]⟩, .string ⟨#[]⟩, .int .i64 0, .int .i64 0, .string ⟨#[]⟩, .int .i64 0] → Box (V.setCells b 0 KL.toArray.toList) b KL) := Hid.mk fun V b h => h.full (by rw [HONK.out.2]; rfl)
            have HIJA : Hid ((Tryz.prog.info? 61).map (·.size) = some JL.toArray.size) := Hid.mk HIJL.out
            have HIKA : Hid ((Tryz.prog.info? 61).map (·.size) = some KL.toArray.size) := Hid.mk HIKL.out
            clear hJL hKL r1 r2
            go_upto_region 11 with fail
            go_cut [7, 8] (fun x y wx => ∃ p q, x = .pointer (some ⟨p, 0, none⟩) ∧ y = .pointer (some ⟨q, 0, none⟩) ∧ Box wx p JL ∧ Box wx q KL ∧ Below wr.heap.size wr wx)
            case first =>
              refine wp_region_held_drew (S := S11 w.heap.size ab bb (k * 15) (.slice (some ⟨ab, 0, none⟩) N2 c2) (.slice (some ⟨bb, 0, none⟩) N2 d2) JL KL) (by kernel_rfl) (HSD.out _ (But.refl _ _).drew) (fun hH => ?_)
              refine wpAnyH_take (i := 0) (v := .pointer (some ⟨w.heap.size, 1, none⟩)) rfl (by kernel_rfl) (by kernel_rfl) (by kernel_rfl) (fun _ _ _ h => h) (Or.inl ⟨by rfl, ?_⟩) (by assumption) ?_
              · intro V hV
                obtain ⟨hV0, hV1, hV2, hV3⟩ := hV
                go_simp
              simp only [List.getElem_toArray, List.getElem_cons_zero, List.getElem_cons_succ, Act.put, List.setIfInBounds_toArray, List.set_cons_zero, List.set_cons_succ]
              refine wpAnyH_take (i := 1) (v := .slice (some ⟨ab, 0, none⟩) N2 c2) rfl (by kernel_rfl) (by kernel_rfl) (by kernel_rfl) (fun _ _ _ h => h) (Or.inl ⟨by rfl, ?_⟩) (by assumption) ?_
              · intro V hV
                obtain ⟨hV0, hV1, hV2, hV3⟩ := hV
                go_simp
              simp only [List.getElem_toArray, List.getElem_cons_zero, List.getElem_cons_succ, Act.put, List.setIfInBounds_toArray, List.set_cons_zero, List.set_cons_succ]
              refine wpAnyH_take (i := 2) (v := .int .i64 (k : Nat)) rfl (by kernel_rfl) (by kernel_rfl) (by kernel_rfl) (fun _ _ _ h => h) (Or.inl ⟨by rfl, ?_⟩) (by assumption) ?_
              · intro V hV
                obtain ⟨hV0, hV1, hV2, hV3⟩ := hV
                go_simp
              simp only [List.getElem_toArray, List.getElem_cons_zero, List.getElem_cons_succ, Act.put, List.setIfInBounds_toArray, List.set_cons_zero, List.set_cons_succ]
              refine wpAnyH_take (i := 3) (v := .pointer (some ⟨ab, k * 15, none⟩)) rfl (by kernel_rfl) (by kernel_rfl) (by kernel_rfl) (fun _ _ _ h => h) (Or.inl ⟨by rfl, ?_⟩) (by assumption) ?_
              · intro V hV
                obtain ⟨hV0, hV1, hV2, hV3⟩ := hV
                go_simp
              simp only [List.getElem_toArray, List.getElem_cons_zero, List.getElem_cons_succ, Act.put, List.setIfInBounds_toArray, List.set_cons_zero, List.set_cons_succ]
              refine wpAnyH_take (i := 4) (v := .agg JL.toArray) rfl (by kernel_rfl) (by kernel_rfl) (by kernel_rfl) (fun _ _ _ h => h) (yieldsIf_load_mid (by rfl) 61 (.tmp 96) rfl ab (k * 15) rfl JL _ (fun V hV => hV.2.2.1) Tryz.underlying61 rfl HIJL.out) (by assumption) ?_
              simp only [List.getElem_toArray, List.getElem_cons_zero, List.getElem_cons_succ, Act.put, List.setIfInBounds_toArray, List.set_cons_zero, List.set_cons_succ]
              refine wpAnyH_take (i := 5) (v := .pointer (some ⟨w.heap.size + 1, 1, none⟩)) rfl (by kernel_rfl) (by kernel_rfl) (by kernel_rfl) (fun _ _ _ h => h) (Or.inl ⟨by rfl, ?_⟩) (by assumption) ?_
              · intro V hV
                obtain ⟨hV0, hV1, hV2, hV3⟩ := hV
                go_simp
              simp only [List.getElem_toArray, List.getElem_cons_zero, List.getElem_cons_succ, Act.put, List.setIfInBounds_toArray, List.set_cons_zero, List.set_cons_succ]
              refine wpAnyH_take (i := 6) (v := .slice (some ⟨bb, 0, none⟩) N2 d2) rfl (by kernel_rfl) (by kernel_rfl) (by kernel_rfl) (fun _ _ _ h => h) (Or.inl ⟨by rfl, ?_⟩) (by assumption) ?_
              · intro V hV
                obtain ⟨hV0, hV1, hV2, hV3⟩ := hV
                go_simp
              simp only [List.getElem_toArray, List.getElem_cons_zero, List.getElem_cons_succ, Act.put, List.setIfInBounds_toArray, List.set_cons_zero, List.set_cons_succ]
              refine wpAnyH_take (i := 7) (v := .int .i64 (k : Nat)) rfl (by kernel_rfl) (by kernel_rfl) (by kernel_rfl) (fun _ _ _ h => h) (Or.inl ⟨by rfl, ?_⟩) (by assumption) ?_
              · intro V hV
                obtain ⟨hV0, hV1, hV2, hV3⟩ := hV
                go_simp
              simp only [List.getElem_toArray, List.getElem_cons_zero, List.getElem_cons_succ, Act.put, List.setIfInBounds_toArray, List.set_cons_zero, List.set_cons_succ]
              refine wpAnyH_take (i := 8) (v := .pointer (some ⟨bb, k * 15, none⟩)) rfl (by kernel_rfl) (by kernel_rfl) (by kernel_rfl) (fun _ _ _ h => h) (Or.inl ⟨by rfl, ?_⟩) (by assumption) ?_
              · intro V hV
                obtain ⟨hV0, hV1, hV2, hV3⟩ := hV
                go_simp
              simp only [List.getElem_toArray, List.getElem_cons_zero, List.getElem_cons_succ, Act.put, List.setIfInBounds_toArray, List.set_cons_zero, List.set_cons_succ]
              refine wpAnyH_take (i := 9) (v := .agg KL.toArray) rfl (by kernel_rfl) (by kernel_rfl) (by kernel_rfl) (fun _ _ _ h => h) (yieldsIf_load_mid (by rfl) 61 (.tmp 101) rfl bb (k * 15) rfl KL _ (fun V hV => hV.2.2.2) Tryz.underlying61 rfl HIKL.out) (by assumption) ?_
              simp only [List.getElem_toArray, List.getElem_cons_zero, List.getElem_cons_succ, Act.put, List.setIfInBounds_toArray, List.set_cons_zero, List.set_cons_succ]
              refine wpAnyH_ready (rs := [10, 11]) (by kernel_rfl) (by simp) ?_
              refine AllReadyH.cons rfl (fun K hK => ?_) (AllReadyH.cons rfl (fun K hK => ?_) AllReadyH.nil)
              · go_simp
                generalize hV1 : (wr.alloc (.cells #[.int .i64 0, .int .i64 0, .slice none 0 0, .slice none 0 0, .slice none 0 0, .string ⟨#[]⟩, .string ⟨#[]⟩, .int .i64 0, .int .i64 0, .string ⟨#[]⟩, .string ⟨#[]⟩, .int .i64 0, .int .i64 0, .string ⟨#[]⟩, .int .i64 0] 61)).drew = V1
                have B1 : Hid (But wr.heap.size wr V1) := Hid.mk (by rw [← hV1]; exact ((But.refl _ wr).box _).drew)
                have XJ : Hid (Box V1 wr.heap.size [.int .i64 0, .int .i64 0, .slice none 0 0, .slice none 0 0, .slice none 0 0, .string ⟨#[]⟩, .string ⟨#[]⟩, .int .i64 0, .int .i64 0, .string ⟨#[]⟩, .string ⟨#[]⟩, .int .i64 0, .int .i64 0, .string ⟨#[]⟩, .int .i64 0]) := Hid.mk (by rw [← hV1]; exact (Box.new wr _ _ _ rfl).below (Below.refl _ _).drew)
                clear hV1
                refine hK.out _ _ (HSD.out _ B1.out) (fun hH => ?_)
                clear hK K
                try simp only [List.getElem_toArray, List.getElem_cons_zero, List.getElem_cons_succ, Act.put, List.setIfInBounds_toArray, List.set_cons_zero, List.set_cons_succ]
                refine wpAnyH_ready (rs := [11]) (by kernel_rfl) (by simp) ?_
                refine AllReadyH.cons rfl (fun K hK => ?_) AllReadyH.nil
                go_simp
                generalize hV2 : V1.alloc (.cells #[.int .i64 0, .int .i64 0, .slice none 0 0, .slice none 0 0, .slice none 0 0, .string ⟨#[]⟩, .string ⟨#[]⟩, .int .i64 0, .int .i64 0, .string ⟨#[]⟩, .string ⟨#[]⟩, .int .i64 0, .int .i64 0, .string ⟨#[]⟩, .int .i64 0] 61) = V2
                have B2 : Hid (But wr.heap.size wr V2) := Hid.mk (by rw [← hV2]; exact B1.out.box _)
                have hneJ2 := XJ.out.lt
                replace XJ := Hid.mk (show Box V2 _ _ by rw [← hV2]; exact XJ.out.below (below_box _ _))
                have XK : Hid (Box V2 V1.heap.size [.int .i64 0, .int .i64 0, .slice none 0 0, .slice none 0 0, .slice none 0 0, .string ⟨#[]⟩, .string ⟨#[]⟩, .int .i64 0, .int .i64 0, .string ⟨#[]⟩, .string ⟨#[]⟩, .int .i64 0, .int .i64 0, .string ⟨#[]⟩, .int .i64 0]) := Hid.mk (by rw [← hV2]; exact Box.new _ _ _ _ rfl)
                clear hV2
                refine hK.out _ _ (HSD.out _ B2.out) (fun hH => ?_)
                clear hK K
                try simp only [List.getElem_toArray, List.getElem_cons_zero, List.getElem_cons_succ, Act.put, List.setIfInBounds_toArray, List.set_cons_zero, List.set_cons_succ]
                refine wpAnyH_ready (rs := [12]) (by kernel_rfl) (by simp) ?_
                refine AllReadyH.cons rfl (fun K hK => ?_) AllReadyH.nil
                refine step_store (by rfl) 61 (.tmp 7) (.tmp 97) (by rfl) wr.heap.size 0 JL.toArray (by rfl) (by rfl) (HTJ.out _ _ XJ.out) HIJA.out HONJ.out.1 ?_
                generalize hV3 : V2.setCells wr.heap.size 0 JL.toArray.toList = V3
                have B3 : Hid (But wr.heap.size wr V3) := Hid.mk (by rw [← hV3]; exact But.puts (Nat.le_refl _) _ _ _ B2.out)
                replace XK := Hid.mk (show Box V3 _ _ by rw [← hV3]; exact Box.other_sets (by omega) _ _ _ XK.out)
                replace XJ := Hid.mk (show Box V3 _ _ by rw [← hV3]; exact HFJ.out _ _ XJ.out)
                clear hV3
                refine hK.out _ _ (HSD.out _ B3.out) (fun hH => ?_)
                clear hK K
                try simp only [List.getElem_toArray, List.getElem_cons_zero, List.getElem_cons_succ, Act.put, List.setIfInBounds_toArray, List.set_cons_zero, List.set_cons_succ]
                refine wpAnyH_ready (rs := [13]) (by kernel_rfl) (by simp) ?_
                refine AllReadyH.cons rfl (fun K hK => ?_) AllReadyH.nil
                refine step_store (by rfl) 61 (.tmp 8) (.tmp 102) (by rfl) V1.heap.size 0 KL.toArray (by rfl) (by rfl) (HTK.out _ _ XK.out) HIKA.out HONK.out.1 ?_
                generalize hV4 : V3.setCells V1.heap.size 0 KL.toArray.toList = V4
                have B4 : Hid (But wr.heap.size wr V4) := Hid.mk (by rw [← hV4]; exact But.puts (B1.out.size) _ _ _ B3.out)
                replace XJ := Hid.mk (show Box V4 _ _ by rw [← hV4]; exact Box.other_sets (by omega) _ _ _ XJ.out)
                replace XK := Hid.mk (show Box V4 _ _ by rw [← hV4]; exact HFK.out _ _ XK.out)
                clear hV4
                refine hK.out _ _ (HSD.out _ B4.out) (fun hH => ?_)
                clear hK K
                try simp only [List.getElem_toArray, List.getElem_cons_zero, List.getElem_cons_succ, Act.put, List.setIfInBounds_toArray, List.set_cons_zero, List.set_cons_succ]
                refine wpAnyH_done (by kernel_rfl) ?_ _
                go_wp2_with fail
                go_meet
                exact ⟨wr.heap.size, V1.heap.size, rfl, rfl, XJ.out, XK.out, B4.out.below (Nat.le_refl _) (Nat.le_refl _)⟩
              · go_simp
                generalize hV1 : (wr.alloc (.cells #[.int .i64 0, .int .i64 0, .slice none 0 0, .slice none 0 0, .slice none 0 0, .string ⟨#[]⟩, .string ⟨#[]⟩, .int .i64 0, .int .i64 0, .string ⟨#[]⟩, .string ⟨#[]⟩, .int .i64 0, .int .i64 0, .string ⟨#[]⟩, .int .i64 0] 61)).drew = V1
                have B1 : Hid (But wr.heap.size wr V1) := Hid.mk (by rw [← hV1]; exact ((But.refl _ wr).box _).drew)
                have XK : Hid (Box V1 wr.heap.size [.int .i64 0, .int .i64 0, .slice none 0 0, .slice none 0 0, .slice none 0 0, .string ⟨#[]⟩, .string ⟨#[]⟩, .int .i64 0, .int .i64 0, .string ⟨#[]⟩, .string ⟨#[]⟩, .int .i64 0, .int .i64 0, .string ⟨#[]⟩, .int .i64 0]) := Hid.mk (by rw [← hV1]; exact (Box.new wr _ _ _ rfl).below (Below.refl _ _).drew)
                clear hV1
                refine hK.out _ _ (HSD.out _ B1.out) (fun hH => ?_)
                clear hK K
                try simp only [List.getElem_toArray, List.getElem_cons_zero, List.getElem_cons_succ, Act.put, List.setIfInBounds_toArray, List.set_cons_zero, List.set_cons_succ]
                refine wpAnyH_ready (rs := [10]) (by kernel_rfl) (by simp) ?_
                refine AllReadyH.cons rfl (fun K hK => ?_) AllReadyH.nil
                go_simp
                generalize hV2 : V1.alloc (.cells #[.int .i64 0, .int .i64 0, .slice none 0 0, .slice none 0 0, .slice none 0 0, .string ⟨#[]⟩, .string ⟨#[]⟩, .int .i64 0, .int .i64 0, .string ⟨#[]⟩, .string ⟨#[]⟩, .int .i64 0, .int .i64 0, .string ⟨#[]⟩, .int .i64 0] 61) = V2
                have B2 : Hid (But wr.heap.size wr V2) := Hid.mk (by rw [← hV2]; exact B1.out.box _)
                have hneK2 := XK.out.lt
                replace XK := Hid.mk (show Box V2 _ _ by rw [← hV2]; exact XK.out.below (below_box _ _))
                have XJ : Hid (Box V2 V1.heap.size [.int .i64 0, .int .i64 0, .slice none 0 0, .slice none 0 0, .slice none 0 0, .string ⟨#[]⟩, .string ⟨#[]⟩, .int .i64 0, .int .i64 0, .string ⟨#[]⟩, .string ⟨#[]⟩, .int .i64 0, .int .i64 0, .string ⟨#[]⟩, .int .i64 0]) := Hid.mk (by rw [← hV2]; exact Box.new _ _ _ _ rfl)
                clear hV2
                refine hK.out _ _ (HSD.out _ B2.out) (fun hH => ?_)
                clear hK K
                try simp only [List.getElem_toArray, List.getElem_cons_zero, List.getElem_cons_succ, Act.put, List.setIfInBounds_toArray, List.set_cons_zero, List.set_cons_succ]
                refine wpAnyH_ready (rs := [12]) (by kernel_rfl) (by simp) ?_
                refine AllReadyH.cons rfl (fun K hK => ?_) AllReadyH.nil
                refine step_store (by rfl) 61 (.tmp 7) (.tmp 97) (by rfl) V1.heap.size 0 JL.toArray (by rfl) (by rfl) (HTJ.out _ _ XJ.out) HIJA.out HONJ.out.1 ?_
                generalize hV3 : V2.setCells V1.heap.size 0 JL.toArray.toList = V3
                have B3 : Hid (But wr.heap.size wr V3) := Hid.mk (by rw [← hV3]; exact But.puts (B1.out.size) _ _ _ B2.out)
                replace XK := Hid.mk (show Box V3 _ _ by rw [← hV3]; exact Box.other_sets (by omega) _ _ _ XK.out)
                replace XJ := Hid.mk (show Box V3 _ _ by rw [← hV3]; exact HFJ.out _ _ XJ.out)
                clear hV3
                refine hK.out _ _ (HSD.out _ B3.out) (fun hH => ?_)
                clear hK K
                try simp only [List.getElem_toArray, List.getElem_cons_zero, List.getElem_cons_succ, Act.put, List.setIfInBounds_toArray, List.set_cons_zero, List.set_cons_succ]
                refine wpAnyH_ready (rs := [13]) (by kernel_rfl) (by simp) ?_
                refine AllReadyH.cons rfl (fun K hK => ?_) AllReadyH.nil
                refine step_store (by rfl) 61 (.tmp 8) (.tmp 102) (by rfl) wr.heap.size 0 KL.toArray (by rfl) (by rfl) (HTK.out _ _ XK.out) HIKA.out HONK.out.1 ?_
                generalize hV4 : V3.setCells wr.heap.size 0 KL.toArray.toList = V4
                have B4 : Hid (But wr.heap.size wr V4) := Hid.mk (by rw [← hV4]; exact But.puts (Nat.le_refl _) _ _ _ B3.out)
                replace XJ := Hid.mk (show Box V4 _ _ by rw [← hV4]; exact Box.other_sets (by omega) _ _ _ XJ.out)
                replace XK := Hid.mk (show Box V4 _ _ by rw [← hV4]; exact HFK.out _ _ XK.out)
                clear hV4
                refine hK.out _ _ (HSD.out _ B4.out) (fun hH => ?_)
                clear hK K
                try simp only [List.getElem_toArray, List.getElem_cons_zero, List.getElem_cons_succ, Act.put, List.setIfInBounds_toArray, List.set_cons_zero, List.set_cons_succ]
                refine wpAnyH_done (by kernel_rfl) ?_ _
                go_wp2_with fail
                go_meet
                exact ⟨V1.heap.size, wr.heap.size, rfl, rfl, XJ.out, XK.out, B4.out.below (Nat.le_refl _) (Nat.le_refl _)⟩
            case rest =>
              obtain ⟨p, q, rfl, rfl, hp, hq, hbc⟩ := hcut
              rw [← HJL.out] at hp
              rw [← HKL.out] at hq
              have XP := Hid.mk hp
              have XQ := Hid.mk hq
              have HBC := Hid.mk hbc
              clear hp hq hbc HJL HKL HS0 HSD HTJ HTK HFJ HFK HIJA HIKA HONJ HONK HIJL HIKL HIN HLT sa sb sla slb
              have p0 := XP.out.cell 0 rfl
              have q0 := XQ.out.cell 0 rfl
              have p1 := XP.out.cell 1 rfl
              have q1 := XQ.out.cell 1 rfl
              have p2 := XP.out.cell 2 rfl
              have q2 := XQ.out.cell 2 rfl
              have p3 := XP.out.cell 3 rfl
              have q3 := XQ.out.cell 3 rfl
              have p4 := XP.out.cell 4 rfl
              have q4 := XQ.out.cell 4 rfl
              have p5 := XP.out.cell 5 rfl
              have q5 := XQ.out.cell 5 rfl
              have p6 := XP.out.cell 6 rfl
              have q6 := XQ.out.cell 6 rfl
              have p7 := XP.out.cell 7 rfl
              have q7 := XQ.out.cell 7 rfl
              have p8 := XP.out.cell 8 rfl
              have q8 := XQ.out.cell 8 rfl
              have p9 := XP.out.cell 9 rfl
              have q9 := XQ.out.cell 9 rfl
              have p10 := XP.out.cell 10 rfl
              have q10 := XQ.out.cell 10 rfl
              have p11 := XP.out.cell 11 rfl
              have q11 := XQ.out.cell 11 rfl
              have p12 := XP.out.cell 12 rfl
              have q12 := XQ.out.cell 12 rfl
              have p13 := XP.out.cell 13 rfl
              have q13 := XQ.out.cell 13 rfl
              have p14 := XP.out.cell 14 rfl
              have q14 := XQ.out.cell 14 rfl
              have pl := XP.out.lt
              have ql := XQ.out.lt
              generalize hv1 : ba a.op = OPB at p5 q5
              generalize hv2 : ba a.left.1 = L1 at p6 q6
              generalize hv3 : a.left.2.1 = L2 at p7 q7
              generalize hv4 : a.left.2.2.1 = L3 at p8 q8
              generalize hv5 : ba a.left.2.2.2 = L4 at p9 q9
              generalize hv6 : ba a.right.1 = R1 at p10 q10
              generalize hv7 : a.right.2.1 = R2 at p11 q11
              generalize hv8 : a.right.2.2.1 = R3 at p12 q12
              generalize hv9 : ba a.right.2.2.2 = R4 at p13 q13
              generalize hv10 : a.retry = RT at p14 q14
              generalize hv11 : a.code = CD at p1 q1
              generalize hv12 : ((a.at_ : Nat) : Int) = AT at p0 q0
              clear hv1 hv2 hv3 hv4 hv5 hv6 hv7 hv8 hv9 hv10 hv11 hv12
              go_wp2_with (go_at_call 22; fail)
              clear p0 q0 p1 q1 p2 q2 p3 q3 p4 q4 p5 q5 p6 q6 p7 q7 p8 q8 p9 q9 p10 q10 p11 q11 p12 q12 p13 q13 p14 q14 pl ql
              refine (sameTexts_any _ _ a.outs _ (HSO.out.1.below HBC.out) (HSO.out.2.below HBC.out) HLN.out.1).mono ?_
              rintro e w11 ⟨rfl, hb⟩
              replace HBC := Hid.mk (bel_then HBC.out hb)
              replace XP := Hid.mk (XP.out.below hb)
              replace XQ := Hid.mk (XQ.out.below hb)
              clear hb
              have p3 := XP.out.cell 3 rfl
              have q3 := XQ.out.cell 3 rfl
              have pl := XP.out.lt
              have ql := XQ.out.lt
              go_wp2_with (go_at_call 22; fail)
              clear p3 q3 pl ql
              refine (sameTexts_any _ _ a.ins _ (HSI.out.1.below HBC.out) (HSI.out.2.below HBC.out) HLN.out.2.1).mono ?_
              rintro e w12 ⟨rfl, hb⟩
              replace HBC := Hid.mk (bel_then HBC.out hb)
              replace XP := Hid.mk (XP.out.below hb)
              replace XQ := Hid.mk (XQ.out.below hb)
              clear hb
              have p3 := XP.out.cell 4 rfl
              have q3 := XQ.out.cell 4 rfl
              have pl := XP.out.lt
              have ql := XQ.out.lt
              go_wp2_with (go_at_call 22; fail)
              clear p3 q3 pl ql
              refine (sameTexts_any _ _ a.cols _ (HSC.out.1.below HBC.out) (HSC.out.2.below HBC.out) HLN.out.2.2).mono ?_
              rintro e w13 ⟨rfl, hb⟩
              replace HBC := Hid.mk (bel_then HBC.out hb)
              clear hb
              go_wp2_with fail
              go_roundw
              case rel => exact ⟨k + 1, hkN, by go_num, HH.out.1.below HBC.out, bel_then HH.out.2 HBC.out⟩
              case measure => simp [intOf]; omega

        · obtain rfl : N2 = k := Nat.le_antisymm (Nat.le_of_not_lt hkN) hk
          have S2 := Hid.mk HH.out.1
          have B2 := Hid.mk HH.out.2
          clear HH
          go_wp2_with fail
          go_loopw [9] (fun ix wr => ∃ k : Nat, k ≤ N3 ∧ ix = .int .i64 (k : Nat) ∧ Aside (SF wr w.heap.size f (.slice a1 N1 c1) (.slice a2 N2 c2) (.slice a3 N3 c3) (.slice b1 N1 d1) (.slice b2 N2 d2) (.slice b3 N3 d3) ∧ Below w.heap.size w wr)) (fun ix _ => N3 - (intOf ix).toNat)
          case atStart => exact ⟨0, Nat.zero_le _, rfl, S2.out, B2.out⟩
          case round =>
            clear S2 B2
            obtain ⟨k, hk, rfl, HH⟩ := hrel
            have sa := HH.out.1.a.cell 2 rfl
            have sb := HH.out.1.b.cell 2 rfl
            have sla := HH.out.1.a.lt
            have slb := HH.out.1.b.lt
            by_cases hkN : k < N3
            · as_aux_lemma =>
                have hkI : (k : Int) < (N3 : Int) := by omega
                have hk0 : (0 : Int) ≤ (k : Int) := by omega
                have hx := HH.out.1.x.outs
                have hy := HH.out.1.y.outs
                rw [HN.out.2.2] at hx hy
                obtain ⟨ga, gc, hge, G1⟩ := hx.sl
                obtain ⟨ha, hc, hhe, G2⟩ := hy.sl
                injection hge with e1 _ e2
                subst e1 e2
                injection hhe with e1 _ e2
                subst e1 e2
                obtain ⟨ab, rfl, hl1, hcp1, p1⟩ := G1 k hkN
                obtain ⟨bb, rfl, hl2, hcp2, p2⟩ := G2 k hkN
                clear hx hy G1 G2
                obtain ⟨a, k1, k2, k3, l1, l2, l3⟩ := at_out p1 p2
                generalize ba a.name = NM at *
                generalize ba a.from_ = FM at *
                generalize ((a.at_ : Nat) : Int) = AT at *
                clear p1 p2
                go_wp2_with fail
                go_quiet (fail)
                go_wp2_with fail
                go_roundw
                case rel => exact ⟨k + 1, hkN, by go_num, HH.out.1.below (below_drewN (Below.refl _ _) _), bel_then HH.out.2 (below_drewN (Below.refl _ _) _)⟩
                case measure => simp [intOf]; omega

            · obtain rfl : N3 = k := Nat.le_antisymm (Nat.le_of_not_lt hkN) hk
              have S3 := Hid.mk HH.out.1
              have B3 := Hid.mk HH.out.2
              clear HH
              go_wp2_with fail
              go_ret
              exact ⟨rfl, B3.out⟩
end Go.Proofs.YtedflhiflomoeaaGreatDoor

