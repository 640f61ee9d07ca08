import Derived.Test.YtjceppinfjbegaaGreatDoorJonA
import Derived.Deep.RegionHeld3
set_option linter.unusedSimpArgs false
set_option linter.unusedVariables false
namespace Go.Proofs.YtjceppinfjbegaaGreatDoor
open Go.RowKit

/-- A list, then another one without its part at a place. -/
def besL {α : Type} (x y : List α) (k : Nat) : List α := x ++ y.take k ++ y.drop (k + 1)
theorem besL_len {α : Type} (x y : List α) (k : Nat) (h : k < y.length) : (besL x y k).length + 1 = x.length + y.length := by
  unfold besL
  simp only [List.length_append, List.length_take, List.length_drop]
  omega
theorem ValsAt.take {w : World} {b o : Nat} {y : List Vl} (h : ValsAt w b o y) (k : Nat) : ValsAt w b o (y.take k) := fun j hj => by
  have hj' : j < y.length := by rw [List.length_take] at hj; omega
  have := h j hj'
  rw [List.getElem_take]
  exact this
theorem ValsAt.drop {w : World} {b o : Nat} {y : List Vl} (h : ValsAt w b o y) (k : Nat) : ValsAt w b (o + k * 3) (y.drop k) := fun j hj => by
  have hj' : k + j < y.length := by rw [List.length_drop] at hj; omega
  have := h (k + j) hj'
  rw [List.getElem_drop]
  rw [show o + k * 3 + j * 3 = o + (k + j) * 3 by omega]
  exact this
theorem ColsAt.drop {w : World} {b o : Nat} {y : List Cl} (h : ColsAt w b o y) (k : Nat) : ColsAt w b (o + k * 2) (y.drop k) := fun j hj => by
  have hj' : k + j < y.length := by rw [List.length_drop] at hj; omega
  have := h (k + j) hj'
  rw [List.getElem_drop]
  rw [show o + k * 2 + j * 2 = o + (k + j) * 2 by omega]
  exact this
theorem valCells_app (x y : List Vl) : valCells (x ++ y) = valCells x ++ valCells y := by simp [valCells]
theorem colCells_app (x y : List Cl) : colCells (x ++ y) = colCells x ++ colCells y := by simp [colCells]
theorem colCells_length (vs : List Cl) : (colCells vs).length = vs.length * 2 := by
  induction vs with
  | nil => rfl
  | cons c r ih => simp only [colCells, List.flatMap_cons, List.length_append, List.length_cons, List.length_nil] at ih ⊢; omega

set_option maxRecDepth 100000 in
set_option maxHeartbeats 1600000 in
theorem besideV_in (xb xo xc yb yo yc at_ : Nat) (x y : List Vl) (w : World) (hxb : xb < w.heap.size) (hx : ValsAt w xb xo x) (hyb : yb < w.heap.size) (hy : ValsAt w yb yo y) (hat : at_ < y.length) (hcap : y.length ≤ yc) (hxl : x.length ≤ 50) (hyl : y.length ≤ 50) :
    Calls Tryz.prog 125 #[.slice (some ⟨xb, xo, none⟩) x.length xc, .slice (some ⟨yb, yo, none⟩) y.length yc, .int .i64 at_] w fun e w' => ∃ v, e = .returned v ∧ w'.ownsRow w.heap.size 24 3 v (besL x y at_).length (valCells (besL x y at_)) ∧ Below w.heap.size w w' := by
  have HC := Hid.mk (fun (W : World) (hW : Below w.heap.size w W) (lb : Nat) (p3 : Option Addr) (c3 : Nat) (hlb : lb < W.heap.size) (c0 : W.cell? ⟨lb, 0, none⟩ = some (.slice (some ⟨xb, xo, none⟩) x.length xc)) (c1 : W.cell? ⟨lb, 1, none⟩ = some (.slice (some ⟨yb, yo, none⟩) at_ yc)) (c2 : W.cell? ⟨lb, 2, none⟩ = some (.slice p3 (y.length - (at_ + 1)) c3)) (hp : ∃ o3, p3 = some ⟨yb, o3, none⟩ ∧ (o3 = yo + (at_ + 1) * 3 ∨ y.length = at_ + 1)) =>
    show Calls Tryz.prog 154 #[.slice (some ⟨lb, 0, none⟩) 3 3] W fun e w' => ∃ v, e = .returned v ∧ w'.ownsRow W.heap.size 24 3 v (x.length + at_ + (y.length - (at_ + 1))) (valCells x ++ valCells (y.take at_) ++ valCells (y.drop (at_ + 1))) ∧ Below W.heap.size W w' from by
      obtain ⟨o3, rfl, h3⟩ := hp
      exact concat3V lb x.length at_ (y.length - (at_ + 1)) xb yb yb xo yo o3 xc yc c3 (valCells x) (valCells (y.take at_)) (valCells (y.drop (at_ + 1))) W hlb c0 c1 c2 (by have := hW.size; omega) (valCells_len x) (vals_news (hx.below hW hxb)) (by omega) (valCells_one x) (by have := hW.size; omega) (by rw [valCells_len, List.length_take]; omega) (vals_news ((hy.below hW hyb).take at_)) (by omega) (valCells_one _) (by have := hW.size; omega) (by rw [valCells_len, List.length_drop]) (by
        rcases h3 with h3 | h3
        · rw [h3]; exact vals_news ((hy.below hW hyb).drop (at_ + 1))
        · intro j u hj
          rw [List.drop_eq_nil_of_le (by omega)] at hj
          simp [valCells] at hj) (by omega) (valCells_one _))
  have HP := Hid.mk (show ∃ o3, (if yc = at_ + 1 then some (⟨yb, yo, none⟩ : Addr) else some ⟨yb, yo + (at_ + 1) * 3, none⟩) = some ⟨yb, o3, none⟩ ∧ (o3 = yo + (at_ + 1) * 3 ∨ y.length = at_ + 1) by
    by_cases h : yc = at_ + 1
    · rw [if_pos h]; exact ⟨yo, rfl, Or.inr (by omega)⟩
    · rw [if_neg h]; exact ⟨_, rfl, Or.inl rfl⟩)
  have HE := Hid.mk (show valCells x ++ valCells (y.take at_) ++ valCells (y.drop (at_ + 1)) = valCells (besL x y at_) ∧ x.length + at_ + (y.length - (at_ + 1)) = (besL x y at_).length by
    refine ⟨by unfold besL; rw [valCells_app, valCells_app], ?_⟩
    have := besL_len x y at_ hat
    omega)
  have h1 : (at_ : Int) ≤ (yc : Int) := by omega
  have h2 : (at_ : Int) + 1 ≤ (y.length : Int) := by omega
  have h3 : (y.length : Int) ≤ (yc : Int) := by omega
  have h4 : (0 : Int) ≤ (at_ : Int) := by omega
  have h5 : (0 : Int) ≤ (at_ : Int) + 1 := by omega
  have h6 : IntKind.i64.wrap ((at_ : Int) + 1) = (at_ : Int) + 1 := by rw [IntKind.wrap_i64]; omega
  have h7 : (at_ : Int) + 1 ≤ (yc : Int) := by omega
  have h8 : ((at_ : Int) + 1).toNat = at_ + 1 := by omega
  clear hx hy
  obtain ⟨P3, hP3⟩ : ∃ q, (if yc = at_ + 1 then some (⟨yb, yo, none⟩ : Addr) else some ⟨yb, yo + (at_ + 1) * 3, none⟩) = q := ⟨_, rfl⟩
  rw [hP3] at HP
  go_enter Tryz.func125, Tryz.ntmps125
  go_wp2_with fail
  go_region_held3 (fun _ => True) (trivial) (first | (go_at_call 154; refine (HC.out _ (bel_box (Below.refl _ _) _).drew w.heap.size P3 (yc - (at_ + 1)) (by simp) (by simp) (by simp) (by simp) HP.out).mono ?_; rintro e w1 ⟨v1, rfl, ho1, hb1⟩))
  go_wp2
  go_ret
  exact ⟨_, rfl, by rw [← HE.out.1, ← HE.out.2]; exact own_mono (by simp) ho1, bel_then (bel_box (Below.refl _ _) _).drew hb1⟩

set_option maxRecDepth 100000 in
set_option maxHeartbeats 1600000 in
theorem besideC_in (xb xo xc yb yo yc at_ : Nat) (x y : List Cl) (w : World) (hxb : xb < w.heap.size) (hx : ColsAt w xb xo x) (hyb : yb < w.heap.size) (hy : ColsAt w yb yo y) (hat : at_ < y.length) (hcap : y.length ≤ yc) (hxl : x.length ≤ 50) (hyl : y.length ≤ 50) :
    Calls Tryz.prog 70 #[.slice (some ⟨xb, xo, none⟩) x.length xc, .slice (some ⟨yb, yo, none⟩) y.length yc, .int .i64 at_] w fun e w' => ∃ v, e = .returned v ∧ w'.ownsRow w.heap.size 60 2 v (besL x y at_).length (colCells (besL x y at_)) ∧ Below w.heap.size w w' := by
  have HC := Hid.mk (fun (W : World) (hW : Below w.heap.size w W) (lb : Nat) (p3 : Option Addr) (c3 : Nat) (hlb : lb < W.heap.size) (c0 : W.cell? ⟨lb, 0, none⟩ = some (.slice (some ⟨xb, xo, none⟩) x.length xc)) (c1 : W.cell? ⟨lb, 1, none⟩ = some (.slice (some ⟨yb, yo, none⟩) at_ yc)) (c2 : W.cell? ⟨lb, 2, none⟩ = some (.slice p3 (y.length - (at_ + 1)) c3)) (hp : ∃ o3, p3 = some ⟨yb, o3, none⟩ ∧ (o3 = yo + (at_ + 1) * 2 ∨ y.length = at_ + 1)) =>
    show Calls Tryz.prog 105 #[.slice (some ⟨lb, 0, none⟩) 3 3] W fun e w' => ∃ v, e = .returned v ∧ w'.ownsRow W.heap.size 60 2 v (x.length + at_ + (y.length - (at_ + 1))) (colCells x ++ colCells (y.take at_) ++ colCells (y.drop (at_ + 1))) ∧ Below W.heap.size W w' from by
      obtain ⟨o3, rfl, h3⟩ := hp
      exact concat3C lb x.length at_ (y.length - (at_ + 1)) xb yb yb xo yo o3 xc yc c3 (colCells x) (colCells (y.take at_)) (colCells (y.drop (at_ + 1))) W hlb c0 c1 c2 (by have := hW.size; omega) (colCells_length x) (cols_news (hx.below hW hxb)) (by omega) (colCells_one x) (by have := hW.size; omega) (by rw [colCells_length, List.length_take]; omega) (cols_news ((hy.below hW hyb).take at_)) (by omega) (colCells_one _) (by have := hW.size; omega) (by rw [colCells_length, List.length_drop]) (by
        rcases h3 with h3 | h3
        · rw [h3]; exact cols_news ((hy.below hW hyb).drop (at_ + 1))
        · intro j u hj
          rw [List.drop_eq_nil_of_le (by omega)] at hj
          simp [colCells] at hj) (by omega) (colCells_one _))
  have HP := Hid.mk (show ∃ o3, (if yc = at_ + 1 then some (⟨yb, yo, none⟩ : Addr) else some ⟨yb, yo + (at_ + 1) * 2, none⟩) = some ⟨yb, o3, none⟩ ∧ (o3 = yo + (at_ + 1) * 2 ∨ y.length = at_ + 1) by
    by_cases h : yc = at_ + 1
    · rw [if_pos h]; exact ⟨yo, rfl, Or.inr (by omega)⟩
    · rw [if_neg h]; exact ⟨_, rfl, Or.inl rfl⟩)
  have HE := Hid.mk (show colCells x ++ colCells (y.take at_) ++ colCells (y.drop (at_ + 1)) = colCells (besL x y at_) ∧ x.length + at_ + (y.length - (at_ + 1)) = (besL x y at_).length by
    refine ⟨by unfold besL; rw [colCells_app, colCells_app], ?_⟩
    have := besL_len x y at_ hat
    omega)
  have h1 : (at_ : Int) ≤ (yc : Int) := by omega
  have h2 : (at_ : Int) + 1 ≤ (y.length : Int) := by omega
  have h3 : (y.length : Int) ≤ (yc : Int) := by omega
  have h4 : (0 : Int) ≤ (at_ : Int) := by omega
  have h5 : (0 : Int) ≤ (at_ : Int) + 1 := by omega
  have h6 : IntKind.i64.wrap ((at_ : Int) + 1) = (at_ : Int) + 1 := by rw [IntKind.wrap_i64]; omega
  have h7 : (at_ : Int) + 1 ≤ (yc : Int) := by omega
  have h8 : ((at_ : Int) + 1).toNat = at_ + 1 := by omega
  clear hx hy
  obtain ⟨P3, hP3⟩ : ∃ q, (if yc = at_ + 1 then some (⟨yb, yo, none⟩ : Addr) else some ⟨yb, yo + (at_ + 1) * 2, none⟩) = q := ⟨_, rfl⟩
  rw [hP3] at HP
  go_enter Tryz.func70, Tryz.ntmps70
  go_wp2_with fail
  go_region_held3 (fun _ => True) (trivial) (first | (go_at_call 105; refine (HC.out _ (bel_box (Below.refl _ _) _).drew w.heap.size P3 (yc - (at_ + 1)) (by simp) (by simp) (by simp) (by simp) HP.out).mono ?_; rintro e w1 ⟨v1, rfl, ho1, hb1⟩))
  go_wp2
  go_ret
  exact ⟨_, rfl, by rw [← HE.out.1, ← HE.out.2]; exact own_mono (by simp) ho1, bel_then (bel_box (Below.refl _ _) _).drew hb1⟩

end Go.Proofs.YtjceppinfjbegaaGreatDoor

