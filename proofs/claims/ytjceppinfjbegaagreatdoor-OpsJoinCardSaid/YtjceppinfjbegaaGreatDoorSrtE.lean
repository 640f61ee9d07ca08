import Derived.Test.YtjceppinfjbegaaGreatDoorStbJ
import Derived.Test.YtjceppinfjbegaaGreatDoorTurK
set_option linter.unusedSimpArgs false
set_option linter.unusedVariables false
namespace Go.Proofs.YtjceppinfjbegaaGreatDoor
open Go.RowKit

theorem bl_cons (a b : UInt8) (x y : List UInt8) : Op.bytesLess (a :: x) (b :: y) = true ↔ a < b ∨ (a = b ∧ Op.bytesLess x y = true) := by simp [Op.bytesLess]
theorem bl_asym : ∀ (l m : List UInt8), Op.bytesLess l m = true → Op.bytesLess m l = true → False
  | [], [], h, _ => by simp [Op.bytesLess] at h
  | [], _ :: _, _, h => by simp [Op.bytesLess] at h
  | _ :: _, [], h, _ => by simp [Op.bytesLess] at h
  | c :: r, d :: q, h, k => by
    rw [bl_cons] at h k
    rcases h with h | ⟨rfl, h⟩
    · rcases k with k | ⟨rfl, k⟩
      · exact absurd (UInt8.lt_trans h k) (UInt8.lt_irrefl _)
      · exact UInt8.lt_irrefl _ h
    · rcases k with k | ⟨-, k⟩
      · exact UInt8.lt_irrefl _ k
      · exact bl_asym r q h k
theorem bl_tri : ∀ (l m : List UInt8), Op.bytesLess l m = false → Op.bytesLess m l = false → l = m
  | [], [], _, _ => rfl
  | [], _ :: _, h, _ => by simp [Op.bytesLess] at h
  | _ :: _, [], _, h => by simp [Op.bytesLess] at h
  | c :: r, d :: q, h, k => by
    have h' : ¬ (c < d ∨ (c = d ∧ Op.bytesLess r q = true)) := fun e => by rw [(bl_cons c d r q).2 e] at h; simp at h
    have k' : ¬ (d < c ∨ (d = c ∧ Op.bytesLess q r = true)) := fun e => by rw [(bl_cons d c q r).2 e] at k; simp at k
    have hcd : c = d := by
      apply UInt8.toNat_inj.1
      have h1 : ¬ c.toNat < d.toNat := fun e => h' (Or.inl (UInt8.lt_iff_toNat_lt.2 e))
      have h2 : ¬ d.toNat < c.toNat := fun e => k' (Or.inl (UInt8.lt_iff_toNat_lt.2 e))
      omega
    subst hcd
    rw [bl_tri r q (bool_false fun e => h' (Or.inr ⟨rfl, e⟩)) (bool_false fun e => k' (Or.inr ⟨rfl, e⟩))]
theorem bl_trans : ∀ (l m n : List UInt8), Op.bytesLess l m = true → Op.bytesLess m n = true → Op.bytesLess l n = true
  | [], [], _, h, _ => by simp [Op.bytesLess] at h
  | _ :: _, [], _, h, _ => by simp [Op.bytesLess] at h
  | _, _ :: _, [], _, h => by simp [Op.bytesLess] at h
  | [], _ :: _, _ :: _, _, _ => by simp [Op.bytesLess]
  | a :: x, b :: y, c :: z, h, k => by
    rw [bl_cons] at h k ⊢
    rcases h with h | ⟨rfl, h⟩
    · rcases k with k | ⟨rfl, k⟩
      · exact Or.inl (UInt8.lt_trans h k)
      · exact Or.inl h
    · rcases k with k | ⟨rfl, k⟩
      · exact Or.inl k
      · exact Or.inr ⟨rfl, bl_trans x y z h k⟩

theorem less_asym {k n k' n' : Int} {l l' : List UInt8} (h : lessB k n l k' n' l' = true) : lessB k' n' l' k n l = false := by
  apply bool_false
  intro h'
  unfold lessB at h h'
  by_cases e : k = k'
  · subst e
    simp at h h'
    split at h
    · rename_i hk; simp [hk] at h'; omega
    · rename_i hk; simp [hk] at h'; exact bl_asym _ _ h h'
  · have e' : ¬ k' = k := fun x => e x.symm
    simp [e] at h; simp [e'] at h'; omega
theorem bl_ntrans {l m n : List UInt8} (h : Op.bytesLess l m = false) (h' : Op.bytesLess m n = false) : Op.bytesLess l n = false := by
  cases e : Op.bytesLess l n with
  | false => rfl
  | true =>
    cases e2 : Op.bytesLess m l with
    | true => exact absurd (bl_trans _ _ _ e2 e) (by rw [h']; decide)
    | false =>
      have := bl_tri _ _ h e2
      subst this
      exact absurd e (by rw [h']; decide)
theorem ordV : Stb.Ord lessV where
  asymm := fun a b h => less_asym h
  ntrans := fun a b c h h' => by
    unfold lessV lessB at *
    by_cases e1 : a.1 = b.1
    · by_cases e2 : b.1 = c.1
      · have e3 : a.1 = c.1 := e1.trans e2
        rw [if_neg (by simp [e1])] at h
        rw [if_neg (by simp [e2])] at h'
        rw [if_neg (by simp [e3])]
        by_cases e4 : a.1 = 1
        · rw [if_pos (by simp [e4])] at h ⊢
          rw [if_pos (by simp [← e1, e4])] at h'
          simp only [decide_eq_false_iff_not, Int.not_lt] at *
          omega
        · rw [if_neg (by simp [e4])] at h ⊢
          rw [if_neg (by simp [← e1, e4])] at h'
          exact bl_ntrans h h'
      · rw [if_pos (by simp [e2])] at h'
        rw [if_pos (by simp [e1, e2])]
        simp only [decide_eq_false_iff_not, Int.not_lt] at *
        omega
    · rw [if_pos (by simp [e1])] at h
      simp only [decide_eq_false_iff_not, Int.not_lt] at h
      by_cases e2 : b.1 = c.1
      · rw [if_pos (by simp; omega)]
        simp only [decide_eq_false_iff_not, Int.not_lt]
        omega
      · rw [if_pos (by simp [e2])] at h'
        simp only [decide_eq_false_iff_not, Int.not_lt] at h'
        rw [if_pos (by simp; omega)]
        simp only [decide_eq_false_iff_not, Int.not_lt]
        omega
/-- What lies in a row at a place. -/
def vAt (r : List Vl) (k : Nat) : Vl := (r[k]?).getD (0, 0, ⟨#[]⟩)
/-- How two rows stand, by some places. -/
def cmpR : List Nat → List Vl → List Vl → Int
  | [], _, _ => 0
  | k :: ks, x, y => if lessV (vAt x k) (vAt y k) = true then -1 else if lessV (vAt y k) (vAt x k) = true then 1 else cmpR ks x y
/-- One row is ahead of another. -/
def ltR (ks : List Nat) (x y : List Vl) : Bool := decide (cmpR ks x y < 0)
theorem cmpR_asym : ∀ (ks : List Nat) (x y : List Vl), cmpR ks x y < 0 → ¬ cmpR ks y x < 0
  | [], _, _, h => absurd h (by simp [cmpR])
  | k :: ks, x, y, h => by
    rw [cmpR] at h ⊢
    by_cases h1 : lessV (vAt x k) (vAt y k) = true
    · rw [if_neg (by rw [ordV.asymm _ _ h1]; decide), if_pos h1]; decide
    · rw [if_neg h1] at h
      by_cases h2 : lessV (vAt y k) (vAt x k) = true
      · rw [if_pos h2] at h; exact absurd h (by decide)
      · rw [if_neg h2] at h
        rw [if_neg h2, if_neg h1]
        exact cmpR_asym ks x y h
theorem cmpR_ntrans : ∀ (ks : List Nat) (x y z : List Vl), ¬ cmpR ks x y < 0 → ¬ cmpR ks y z < 0 → ¬ cmpR ks x z < 0
  | [], _, _, _, _, _ => by simp [cmpR]
  | k :: ks, x, y, z, h, h' => by
    rw [cmpR] at h h' ⊢
    by_cases h1 : lessV (vAt x k) (vAt y k) = true
    · rw [if_pos h1] at h; exact absurd (by decide) h
    by_cases h2 : lessV (vAt y k) (vAt z k) = true
    · rw [if_pos h2] at h'; exact absurd (by decide) h'
    have n1 := bool_false h1
    have n2 := bool_false h2
    rw [if_neg (by rw [ordV.ntrans _ _ _ n1 n2]; decide)]
    by_cases h3 : lessV (vAt z k) (vAt x k) = true
    · rw [if_pos h3]; decide
    · rw [if_neg h3]
      have n3 := bool_false h3
      have h4 : ¬ lessV (vAt y k) (vAt x k) = true := by
        intro e
        exact h3 (ordV.le_lt n2 e)
      have h5 : ¬ lessV (vAt z k) (vAt y k) = true := by
        intro e
        exact h3 (ordV.lt_le e n1)
      rw [if_neg h1, if_neg h4] at h
      rw [if_neg h2, if_neg h5] at h'
      exact cmpR_ntrans ks x y z h h'
theorem ordR (ks : List Nat) : Stb.Ord (ltR ks) where
  asymm := fun x y h => decide_eq_false (cmpR_asym ks x y (of_decide_eq_true h))
  ntrans := fun x y z h h' => decide_eq_false (cmpR_ntrans ks x y z (of_decide_eq_false h) (of_decide_eq_false h'))

open Go.Sort in
set_option maxHeartbeats 400000 in
theorem less_grown (a b : Vl) (w : World) :
    Calls Tryz.prog 24 #[.agg #[.int .i64 a.1, .int .i64 a.2.1, .string a.2.2], .agg #[.int .i64 b.1, .int .i64 b.2.1, .string b.2.2]] w fun e w' => e = .returned (.bool (lessV a b)) ∧ ∃ q os', w' = grow (w.drewN q) os' := by
  obtain ⟨k, n, s⟩ := a
  obtain ⟨k', n', s'⟩ := b
  have hw : ∀ o o' : Obj, ∃ q os', (w.alloc o).alloc o' = grow (w.drewN q) os' := fun o o' => ⟨0, #[o] ++ #[o'], by rw [alloc_eq_grow, alloc_eq_grow, grow_grow]; rfl⟩
  have HW := Hid.mk hw
  clear hw
  unfold lessV
  dsimp only
  go_enter Tryz.func24, Tryz.ntmps24
  go_wp2
  all_goals go_ret
  all_goals refine ⟨ret_bool ?_, HW.out _ _⟩
  all_goals simp_all [lessB, ByteArray.toList_eq]
end Go.Proofs.YtjceppinfjbegaaGreatDoor

namespace Go.Proofs.YtjceppinfjbegaaGreatDoor
open Go.RowKit
open Go.Sort (grow)

theorem vAt_of {r : List Vl} {k : Nat} (h : k < r.length) : vAt r k = r[k] := by unfold vAt; rw [List.getElem?_eq_getElem h]; rfl
theorem size_grown (w : World) (q : Nat) (os : Array Obj) : (grow (w.drewN q) os).heap.size = w.heap.size + os.size := by rw [Go.Sort.size_grow]; rfl

set_option maxHeartbeats 3200000 in
set_option maxRecDepth 100000 in
/-- How two rows stand, by some places: the closure. -/
theorem sorted1_any (xb xo xc yb yo yc ab ao ac pb : Nat) (x y : List Vl) (ks : List Nat) (w : World) (hxb : xb < w.heap.size) (hx : ValsAt w xb xo x) (hyb : yb < w.heap.size) (hy : ValsAt w yb yo y) (hab : ab < w.heap.size) (hk : IntsAt w ab ao ks) (hpb : pb < w.heap.size) (hp : w.cell? ⟨pb, 0, none⟩ = some (.slice (some ⟨ab, ao, none⟩) ks.length ac)) (hlx : ∀ k ∈ ks, k < x.length) (hly : ∀ k ∈ ks, k < y.length) (h6 : ks.length ≤ 100) (hxl : x.length ≤ 100) (hyl : y.length ≤ 100) :
    Calls Tryz.prog 122 #[.slice (some ⟨xb, xo, none⟩) x.length xc, .slice (some ⟨yb, yo, none⟩) y.length yc, .pointer (some ⟨pb, 0, none⟩)] w fun e w' => e = .returned (.int .i64 (cmpR ks x y)) ∧ ∃ q os', w' = grow (w.drewN q) os' := by
  have mixed : Tryz.prog.follows .mixedOrders = true := by kernel_rfl
  have HX : Aside (ValsAt w xb xo x ∧ ValsAt w yb yo y ∧ IntsAt w ab ao ks ∧ (∀ k ∈ ks, k < x.length) ∧ ∀ k ∈ ks, k < y.length) := ⟨hx, hy, hk, hlx, hly⟩
  have H0 : Aside (∃ q os, w = grow (w.drewN q) os) := ⟨0, #[], by rw [Go.Sort.grow_empty]; rfl⟩
  clear hx hy hk hlx hly
  go_enter Tryz.func122, Tryz.ntmps122
  go_wp2
  go_loopg [10] ks.length (fun g1 vi wr => ∃ (k : Nat), vi = .int .i64 k ∧ k ≤ ks.length ∧ ks.length - k ≤ g1 ∧ Aside (∃ q os, wr = grow (w.drewN q) os) ∧ Aside (cmpR ks x y = cmpR (ks.drop k) x y))
  case atStart => exact ⟨0, rfl, Nat.zero_le _, by omega, H0, (show cmpR ks x y = cmpR (ks.drop 0) x y by rw [List.drop_zero])⟩
  case round =>
    clear H0
    obtain ⟨k, rfl, hkl, hg, HW, HC⟩ := hrel
    have hws : w.heap.size ≤ wr.heap.size := by obtain ⟨q, os, e⟩ := HW.out; rw [e, size_grown]; omega
    have CG : Aside (∀ (a : Addr) (v : Value), a.block < w.heap.size → w.cell? a = some v → wr.cell? a = some v) := by
      intro a v h1 h2
      obtain ⟨q, os, e⟩ := HW.out
      rw [e]
      exact cell_grown h1 h2 q os
    by_cases hlt : k < ks.length
    · obtain ⟨p, hpk⟩ : ∃ p, ks[k] = p := ⟨_, rfl⟩
      obtain ⟨hx, hy, hks, hlx, hly⟩ := HX.out
      have hpx : p < x.length := hpk ▸ hlx _ (List.getElem_mem hlt)
      have hpy : p < y.length := hpk ▸ hly _ (List.getElem_mem hlt)
      have c0 : wr.cell? ⟨ab, ao + k, none⟩ = some (.int .i64 p) := CG.out _ _ hab (by have := hks k hlt; rw [hpk] at this; exact this)
      obtain ⟨e0, e1, e2⟩ := hx p hpx
      obtain ⟨f0, f1, f2⟩ := hy p hpy
      have HR : Aside (cmpR (ks.drop k) x y = if lessV x[p] y[p] = true then -1 else if lessV y[p] x[p] = true then 1 else cmpR (ks.drop (k + 1)) x y) := (show cmpR (ks.drop k) x y = _ by rw [List.drop_eq_getElem_cons hlt, cmpR, hpk, vAt_of hpx, vAt_of hpy])
      generalize x[p] = a at *
      generalize y[p] = b at *
      have x0 := CG.out _ _ (by exact hxb) e0
      have x1 := CG.out _ _ (by exact hxb) e1
      have x2 := CG.out _ _ (by exact hxb) e2
      have y0 := CG.out _ _ (by exact hyb) f0
      have y1 := CG.out _ _ (by exact hyb) f1
      have y2 := CG.out _ _ (by exact hyb) f2
      have X0 := cell_grown (by show xb < _; omega) x0
      have X1 := cell_grown (by show xb < _; omega) x1
      have X2 := cell_grown (by show xb < _; omega) x2
      have Y0 := cell_grown (by show yb < _; omega) y0
      have Y1 := cell_grown (by show yb < _; omega) y1
      have Y2 := cell_grown (by show yb < _; omega) y2
      clear hx hy hks hlx hly e0 e1 e2 f0 f1 f2 x0 x1 x2 y0 y1 y2 hpk
      cases hl1 : lessV a b with
      | true =>
        have HV : Aside (cmpR ks x y = -1) := (show cmpR ks x y = -1 by rw [HC.out, HR.out, if_pos hl1])
        have LG : Aside (∀ W : World, Calls Tryz.prog 24 #[.agg #[.int .i64 a.1, .int .i64 a.2.1, .string a.2.2], .agg #[.int .i64 b.1, .int .i64 b.2.1, .string b.2.2]] W fun e w' => e = .returned (.bool true) ∧ ∃ q os', w' = grow (W.drewN q) os') := fun W => by have := less_grown a b W; rw [hl1] at this; exact this
        clear hl1 HR HC
        go_wp2_with fail
        go_quiet_grown (first | (go_at_call 24; refine Calls.grown_of (LG.out _)))
        have HW2 : Aside (∃ q os, grow (wr.drewN nq) osq = grow (w.drewN q) os) := by
          obtain ⟨q, os, e⟩ := HW.out
          rw [e]
          exact ⟨q + nq, os ++ osq, by show grow (grow ((w.drewN q).drewN nq) os) osq = _; rw [Go.Sort.grow_grow, World.drewN_drewN]⟩
        clear X0 X1 X2 Y0 Y1 Y2 c0
        generalize grow (wr.drewN nq) osq = w2 at HW2 ⊢
        go_wp2
        go_ret
        exact ⟨by rw [HV.out]; rfl, HW2.out⟩
      | false =>
        have LG : Aside (∀ W : World, Calls Tryz.prog 24 #[.agg #[.int .i64 a.1, .int .i64 a.2.1, .string a.2.2], .agg #[.int .i64 b.1, .int .i64 b.2.1, .string b.2.2]] W fun e w' => e = .returned (.bool false) ∧ ∃ q os', w' = grow (W.drewN q) os') := fun W => by have := less_grown a b W; rw [hl1] at this; exact this
        have HR2 : Aside (cmpR ks x y = if lessV b a = true then 1 else cmpR (ks.drop (k + 1)) x y) := (show cmpR ks x y = _ by rw [HC.out, HR.out, if_neg (by rw [hl1]; decide)])
        clear hl1 HR HC
        go_wp2_with fail
        go_quiet_grown (first | (go_at_call 24; refine Calls.grown_of (LG.out _)))
        have HW2 : Aside (∃ q os, grow (wr.drewN nq) osq = grow (w.drewN q) os) := by
          obtain ⟨q, os, e⟩ := HW.out
          rw [e]
          exact ⟨q + nq, os ++ osq, by show grow (grow ((w.drewN q).drewN nq) os) osq = _; rw [Go.Sort.grow_grow, World.drewN_drewN]⟩
        have hws2 : w.heap.size ≤ (grow (wr.drewN nq) osq).heap.size := by rw [size_grown]; omega
        have x0 := X0 nq osq
        have x1 := X1 nq osq
        have x2 := X2 nq osq
        have y0 := Y0 nq osq
        have y1 := Y1 nq osq
        have y2 := Y2 nq osq
        clear X0 X1 X2 Y0 Y1 Y2 c0 LG
        generalize grow (wr.drewN nq) osq = w2 at *
        have X0 := cell_grown (by show xb < _; omega) x0
        have X1 := cell_grown (by show xb < _; omega) x1
        have X2 := cell_grown (by show xb < _; omega) x2
        have Y0 := cell_grown (by show yb < _; omega) y0
        have Y1 := cell_grown (by show yb < _; omega) y1
        have Y2 := cell_grown (by show yb < _; omega) y2
        clear x0 x1 x2 y0 y1 y2 nq osq
        cases hl2 : lessV b a with
        | true =>
          have HV : Aside (cmpR ks x y = 1) := (show cmpR ks x y = 1 by rw [HR2.out, if_pos hl2])
          have LG : Aside (∀ W : World, Calls Tryz.prog 24 #[.agg #[.int .i64 b.1, .int .i64 b.2.1, .string b.2.2], .agg #[.int .i64 a.1, .int .i64 a.2.1, .string a.2.2]] W fun e w' => e = .returned (.bool true) ∧ ∃ q os', w' = grow (W.drewN q) os') := fun W => by have := less_grown b a W; rw [hl2] at this; exact this
          clear hl2 HR2
          go_wp2_with fail
          go_quiet_grown (first | (go_at_call 24; refine Calls.grown_of (LG.out _)))
          have HW3 : Aside (∃ q os, grow (w2.drewN nq) osq = grow (w.drewN q) os) := by
            obtain ⟨q, os, e⟩ := HW2.out
            rw [e]
            exact ⟨q + nq, os ++ osq, by show grow (grow ((w.drewN q).drewN nq) os) osq = _; rw [Go.Sort.grow_grow, World.drewN_drewN]⟩
          clear X0 X1 X2 Y0 Y1 Y2
          generalize grow (w2.drewN nq) osq = w3 at HW3 ⊢
          go_wp2
          go_ret
          exact ⟨by rw [HV.out]; rfl, HW3.out⟩
        | false =>
          have HV : Aside (cmpR ks x y = cmpR (ks.drop (k + 1)) x y) := (show cmpR ks x y = _ by rw [HR2.out, if_neg (by rw [hl2]; decide)])
          have LG : Aside (∀ W : World, Calls Tryz.prog 24 #[.agg #[.int .i64 b.1, .int .i64 b.2.1, .string b.2.2], .agg #[.int .i64 a.1, .int .i64 a.2.1, .string a.2.2]] W fun e w' => e = .returned (.bool false) ∧ ∃ q os', w' = grow (W.drewN q) os') := fun W => by have := less_grown b a W; rw [hl2] at this; exact this
          clear hl2 HR2
          go_wp2_with fail
          go_quiet_grown (first | (go_at_call 24; refine Calls.grown_of (LG.out _)))
          have HW3 : Aside (∃ q os, grow (w2.drewN nq) osq = grow (w.drewN q) os) := by
            obtain ⟨q, os, e⟩ := HW2.out
            rw [e]
            exact ⟨q + nq, os ++ osq, by show grow (grow ((w.drewN q).drewN nq) os) osq = _; rw [Go.Sort.grow_grow, World.drewN_drewN]⟩
          clear X0 X1 X2 Y0 Y1 Y2
          generalize grow (w2.drewN nq) osq = w3 at HW3 ⊢
          go_wp2
          go_roundg (ks.length - (k + 1))
          case measure => omega
          case rel => exact ⟨k + 1, by go_num, by omega, Nat.le_refl _, HW3, HV⟩
    · have hke : k = ks.length := by omega
      have hltz : ¬ (k : Int) < (ks.length : Int) := by omega
      go_wp2
      go_ret
      refine ⟨?_, HW.out⟩
      rw [HC.out, List.drop_eq_nil_of_le (by omega)]
      rfl
end Go.Proofs.YtjceppinfjbegaaGreatDoor

namespace Go.Proofs.YtjceppinfjbegaaGreatDoor
open Go.RowKit
open Go.Sort (grow putRow putCells Holds)

namespace Stb
theorem eqv_cong {α : Type} {lt : α → α → Bool} (ho : Ord lt) {x y : α} (h : eqv lt x y = true) (z : α) : eqv lt x z = eqv lt y z := by
  simp only [eqv, Bool.and_eq_true, Bool.not_eq_true'] at h
  have one : ∀ a b c : α, lt a b = false → lt b a = false → eqv lt a c = true → eqv lt b c = true := by
    intro a b c h1 h2 h3
    simp only [eqv, Bool.and_eq_true, Bool.not_eq_true'] at h3 ⊢
    exact ⟨ho.ntrans _ _ _ h2 h3.1, ho.ntrans _ _ _ h3.2 h1⟩
  cases e : eqv lt y z with
  | true => exact one y x z h.2 h.1 e
  | false =>
    cases e2 : eqv lt x z with
    | false => rfl
    | true => exact absurd (one x y z h.1 h.2 e2) (by rw [e]; decide)
theorem Same.map {α β : Type} {lt : β → β → Bool} (ho : Ord lt) (f : α → β) {l l' : List α} (h : Same (fun a b => lt (f a) (f b)) l l') : Same lt (l.map f) (l'.map f) := by
  have ho' : Ord (fun a b => lt (f a) (f b)) := ⟨fun a b => ho.asymm _ _, fun a b c => ho.ntrans _ _ _⟩
  intro x
  rw [List.filter_map, List.filter_map]
  congr 1
  by_cases hx : ∃ i ∈ l, eqv lt x (f i) = true
  · obtain ⟨i, -, hi⟩ := hx
    have e : (eqv lt x ∘ f) = eqv (fun a b => lt (f a) (f b)) i := by
      funext j
      exact eqv_cong ho hi (f j)
    rw [e]
    exact h i
  · have hn : ∀ q : List α, (∀ i ∈ q, i ∈ l) → q.filter (eqv lt x ∘ f) = [] := fun q hq => by
      rw [List.filter_eq_nil_iff]
      intro i hi he
      exact hx ⟨i, hq i hi, he⟩
    rw [hn l (fun i hi => hi), hn l' (fun i hi => (h.mem ho').2 hi)]
theorem Sorted.map {α β : Type} {lt : β → β → Bool} (f : α → β) {l : List α} (h : Sorted (fun a b => lt (f a) (f b)) l) : Sorted lt (l.map f) := List.pairwise_map.2 h
end Stb

section
variable {α : Type} [Inhabited α] {enc : α → Value}
theorem heap_srt {w : World} {g n : Nat} {os : Array Obj} {cur : Array Value} {e : TypeId} {fr : Nat × Nat} (d : Array α) (hb : w.heap[g]? = some (.cells cur e fr)) :
    (grow (putRow enc (Go.Sort.ahead w n) g 0 d) os).heap[g]? = some (.cells (putCells enc 0 d cur) e fr) := by
  have hg : g < w.heap.size := (Array.getElem?_eq_some_iff.1 hb).1
  rw [Go.Sort.heap_grow_old _ _ (by simpa using hg)]
  simp [putRow, Go.Sort.mapBlock, Go.Sort.ahead, Array.getElem?_modify, hb, Go.Sort.onCells]
theorem grown_srt {w : World} {g n : Nat} {os : Array Obj} (d : Array α) : w.grownBy (grow (putRow enc (Go.Sort.ahead w n) g 0 d) os) (some g) := by
  refine ⟨rfl, rfl, rfl, by simp, fun k hk hne => ?_⟩
  rw [Go.Sort.heap_grow_old _ _ (by simpa using hk)]
  have : g ≠ k := fun e => hne (by rw [e])
  simp [putRow, Go.Sort.mapBlock, Go.Sort.ahead, Array.getElem?_modify, this]
theorem take_srt (cur : Array Value) (ts : List α) (h : ts.length ≤ cur.size) : (putCells enc 0 ts.toArray cur).toList.take ts.length = ts.map enc := by
  apply List.ext_getElem?
  intro j
  by_cases hj : j < ts.length
  · rw [List.getElem?_take_of_lt hj, Array.getElem?_toList]
    simp [putCells, hj, show j < cur.size by omega]
  · rw [List.getElem?_take_eq_none (by omega), List.getElem?_eq_none (by simp; omega)]
theorem owns_srt {w : World} {base g cap n k : Nat} {e : TypeId} {os : Array Obj} {cur : Array Value} {ts : List α} (hl : ts.length = k) (hbase : base ≤ g) (hb : w.heap[g]? = some (.cells cur e (0, 0)))
    (h1 : k ≤ cap) (h2 : cap ≤ maxLen) (h3 : cur.size = cap * 1) :
    (grow (putRow enc (Go.Sort.ahead w n) g 0 ts.toArray) os).ownsRow base e 1 (.slice (some ⟨g, 0, none⟩) k cap) k (ts.map enc) :=
  ⟨by simp [hl], .inr ⟨g, cap, _, rfl, hbase, heap_srt _ hb, h1, h2, by simp [putCells, h3], by rw [Nat.mul_one, ← hl]; exact take_srt cur ts (by omega)⟩⟩
end

set_option maxHeartbeats 1600000 in
theorem ins_none (dv cv : Value) (w : World) : Calls Tryz.prog 171 #[dv, .int .i64 0, .int .i64 0, cv] w fun e w' => e = .returned (.tuple #[]) ∧ w' = w := by
  go_enter Tryz.func171, Tryz.ntmps171
  go_wp2
  go_loopg [8] 0 (fun g1 vi wr => vi = .int .i64 1 ∧ wr = w)
  case atStart => exact ⟨rfl, rfl⟩
  case round =>
    obtain ⟨rfl, rfl⟩ := hrel
    go_wp2
    go_end0
    exact ⟨rfl, rfl⟩
set_option maxHeartbeats 1600000 in
theorem stable_none (dv cv : Value) (w : World) : Calls Tryz.prog 153 #[dv, .int .i64 0, cv] w fun e w' => e = .returned (.tuple #[]) ∧ w' = w := by
  go_enter Tryz.func153, Tryz.ntmps153
  go_wp2
  go_loopg [7, 8] 0 (fun g1 va vb wr => va = .int .i64 0 ∧ vb = .int .i64 20 ∧ wr = w)
  case atStart => exact ⟨rfl, rfl, rfl⟩
  case round =>
    obtain ⟨rfl, rfl, rfl⟩ := hrel
    go_wp2_with (go_at_call 171; refine (ins_none _ _ _).mono ?_; rintro e w2 ⟨rfl, rfl⟩)
    go_loopg [6] 0 (fun g1 va wr' => va = .int .i64 20 ∧ wr' = w2)
    case atStart => exact ⟨rfl, rfl⟩
    case round =>
      obtain ⟨rfl, rfl⟩ := hrel
      go_wp2
      go_end0
      exact ⟨rfl, rfl⟩
set_option maxHeartbeats 1600000 in
theorem sort_none (a : Option Addr) (c : Nat) (cv : Value) (w : World) : Calls Tryz.prog 121 #[.slice a 0 c, cv] w fun e w' => e = .returned (.tuple #[]) ∧ w' = w := by
  go_enter Tryz.func121, Tryz.ntmps121
  go_wp2_with (go_at_call 153; fail)
  refine (stable_none _ _ _).mono ?_
  rintro e w2 ⟨rfl, rfl⟩
  go_wp2
  go_end0
  exact ⟨rfl, rfl⟩
end Go.Proofs.YtjceppinfjbegaaGreatDoor

namespace Go.Proofs.YtjceppinfjbegaaGreatDoor
open Go.RowKit
open Go.Sort (grow putRow putCells Holds)

/-- Where a row of values lies. -/
theorem held_row {w : World} {B : Nat} {u : Value} {r : List Vl} (h : w.ownsRow B 24 3 u r.length (valCells r)) (hs : ∀ x ∈ r, x.2.2.size ≤ maxLen) (h0 : 0 < r.length) : ∃ g c cur, u = .slice (some ⟨g, 0, none⟩) r.length c ∧ w.heap[g]? = some (.cells cur 24 (0, 0)) ∧ g < w.heap.size ∧ ValsAt w g 0 r := by
  have hv := row_of_own h hs
  obtain ⟨-, ⟨-, hn⟩ | ⟨g, cap, cur, rfl, hg, hh, hn, hm, -, -⟩⟩ := h
  · omega
  obtain ⟨a, c, e, -, hor⟩ := hv
  rcases hor with hor | ⟨b, o, ha, hl, hat⟩
  · rw [hor] at h0; simp at h0
  simp only [Value.slice.injEq] at e
  obtain ⟨e1, -, rfl⟩ := e
  rw [ha] at e1
  simp only [Option.some.injEq, Addr.mk.injEq] at e1
  obtain ⟨rfl, rfl, -⟩ := e1
  exact ⟨g, cap, cur, rfl, hh, hl, hat⟩
theorem sort_world_cell {α : Type} [Inhabited α] (enc : α → Value) (w : World) (g m : Nat) (d : Array α) (os : Array Obj) (a : Addr) (h : a.block ≠ g) (hl : a.block < w.heap.size) : (sortWorld enc w g 0 m d os).cell? a = w.cell? a := by
  unfold sortWorld
  rw [Go.Sort.cell?_grow _ _ _ (by simpa using hl), Go.Sort.cell?_putRow_other _ _ _ _ _ _ (Or.inl h)]
  rfl

set_option maxHeartbeats 1600000 in
set_option maxRecDepth 100000 in
/-- Rows that are sorted: in a row, equals as they were. -/
theorem sorted_any (v av : Value) (us : List Value) (rs : List (List Vl)) (B B2 m : Nat) (ks : List Nat) (w : World) (hv : w.ownsRow B 62 1 v rs.length us) (hH : HeldRows w B us rs) (hl : ∀ r ∈ rs, r.length = m) (h1 : 1 ≤ m) (h6 : m ≤ 100) (h60 : rs.length ≤ 100) (hko : w.ownsRow B2 3 1 av ks.length (intCells ks)) (hk0 : 0 < ks.length) (hk6 : ks.length ≤ 100) (hkm : ∀ k ∈ ks, k < m) (hBw : B ≤ w.heap.size) :
    Calls Tryz.prog 87 #[v, av] w fun e w' => ∃ us' rs', e = .returned v ∧ Stb.Sorted (ltR ks) rs' ∧ Stb.Same (ltR ks) rs rs' ∧ w'.ownsRow B 62 1 v rs.length us' ∧ HeldRows w' B us' rs' ∧ Below B w w' := by
  have hmf : ∀ (fn : Fn) (first cap : Array Value) (w : World), (Instr.makeFunc fn first cap).run Tryz.prog w = .ok (.func fn first cap) w := fun _ _ _ _ => rfl
  obtain ⟨aa, aac, rfl⟩ := own_slice hko
  obtain ⟨av, hav0⟩ : ∃ q, q = Value.slice aa ks.length aac := ⟨_, rfl⟩
  rw [← hav0] at hko ⊢
  have hS : ∃ a c, v = .slice a rs.length c ∧ Calls Tryz.prog 121 #[.slice a rs.length c, .func (.func 122) #[] #[.pointer (some ⟨w.heap.size, 0, none⟩)]] (w.alloc (.cells #[av] 83)) fun e w' => e = .returned (.tuple #[]) ∧ ∃ us' rs', Stb.Sorted (ltR ks) rs' ∧ Stb.Same (ltR ks) rs rs' ∧ w'.ownsRow B 62 1 (.slice a rs.length c) rs.length us' ∧ HeldRows w' B us' rs' ∧ Below B w w' := by
    obtain ⟨hul, ⟨rfl, hn⟩ | ⟨g, cap, cur, rfl, hgB, hgh, hcap, hmx, hcs, hct⟩⟩ := hv
    · refine ⟨none, 0, by rw [hn], ?_⟩
      rw [hn]
      refine (sort_none none 0 _ _).mono ?_
      rintro e w' ⟨rfl, rfl⟩
      have hr0 : rs = [] := List.length_eq_zero_iff.1 hn
      refine ⟨rfl, [], rs, by rw [hr0]; exact List.Pairwise.nil, Stb.Same.refl _ _, World.ownsRow_nil _ _ _ _, by rw [hr0]; exact HeldRows.nil _ _, (Below.refl _ _).alloc hBw _⟩
    · refine ⟨some ⟨g, 0, none⟩, cap, rfl, ?_⟩
      have hgl : g < w.heap.size := (Array.getElem?_eq_some_iff.1 hgh).1
      rcases Nat.eq_zero_or_pos rs.length with hn | hpos
      · rw [hn]
        refine (sort_none _ cap _ _).mono ?_
        rintro e w' ⟨rfl, rfl⟩
        have hr0 : rs = [] := List.length_eq_zero_iff.1 hn
        have hu0 : us = [] := List.length_eq_zero_iff.1 (by rw [hul, hn])
        have ho : w.ownsRow B 62 1 (.slice (some ⟨g, 0, none⟩) 0 cap) 0 us := ⟨by rw [hul, hn], .inr ⟨g, cap, cur, by rw [← hn], hgB, hgh, by omega, hmx, hcs, by rw [hn] at hct; exact hct⟩⟩
        exact ⟨rfl, us, rs, by rw [hr0]; exact List.Pairwise.nil, Stb.Same.refl _ _, ho.alloc _, hH.below (below_box _ _), (Below.refl _ _).alloc hBw _⟩
      · obtain ⟨n, hn⟩ : ∃ n, rs.length = n + 1 := ⟨rs.length - 1, by omega⟩
        have hun : us.length = n + 1 := by rw [hul, hn]; omega
        have hW0 : ∀ k, k < w.heap.size → (w.alloc (.cells #[av] 83)).heap[k]? = w.heap[k]? := (below_box w _).block
        let enc : Fin (n + 1) → Value := fun i => us[i.1]'(by rw [hun]; exact i.2)
        let row : Fin (n + 1) → List Vl := fun i => rs[i.1]'(by rw [hn]; exact i.2)
        let cf : Fin (n + 1) → Fin (n + 1) → Int := fun i j => cmpR ks (row i) (row j)
        have hrow : ∀ i : Fin (n + 1), ∃ b c cu, enc i = .slice (some ⟨b, 0, none⟩) (row i).length c ∧ w.heap[b]? = some (.cells cu 24 (0, 0)) ∧ b < w.heap.size ∧ ValsAt w b 0 (row i) ∧ (row i).length = m ∧ b ≠ g := by
          intro i
          have hi : i.1 < rs.length := by rw [hn]; exact i.2
          have hlen : (row i).length = m := hl _ (List.getElem_mem hi)
          obtain ⟨b, c, cu, q1, q2, q3, q4⟩ := held_row (hH.2 i.1 (by rw [hun]; exact i.2) hi).1 (hH.2 i.1 (by rw [hun]; exact i.2) hi).2 (by have : rs[i.1].length = m := hlen; omega)
          refine ⟨b, c, cu, q1, q2, q3, q4, hlen, ?_⟩
          rintro rfl
          rw [hgh] at q2
          simp at q2
        have hfl : (List.finRange (n + 1)).length = rs.length := by rw [List.length_finRange, hn]
        have hfu : (List.finRange (n + 1)).map enc = us := by
          refine List.ext_getElem (by simp [hun]) fun k h1 h2 => ?_
          simp [enc]
        have hfr : (List.finRange (n + 1)).map row = rs := by
          refine List.ext_getElem (by simp [hn]) fun k h1 h2 => ?_
          simp [row]
        have hO : OneCell enc := by
          intro i
          obtain ⟨b, c, cu, q1, -⟩ := hrow i
          rw [q1]; rfl
        have hHd : Holds enc (w.alloc (.cells #[av] 83)) g 0 (List.finRange (n + 1)).toArray := by
          intro j hj
          have hj' : j < rs.length := by rw [← hfl]; simpa using hj
          have hh : (w.alloc (.cells #[av] 83)).heap[g]? = some (.cells cur 62 (0, 0)) := (hW0 g hgl).trans hgh
          refine ⟨?_, by simp [World.frozen?, hh]⟩
          have h1 : (cur.toList.take rs.length)[j]? = us[j]? := by rw [Nat.mul_one] at hct; rw [hct]
          rw [List.getElem?_take_of_lt hj'] at h1
          simp only [World.cell?, hh, Nat.zero_add]
          simp only [Option.isSome_none, Bool.false_eq_true, if_false]
          rw [← Array.getElem?_toList, h1, List.getElem?_eq_getElem (by rw [hun]; omega)]
          simp [enc, getElem!_pos, show j < n + 1 by omega]
        have hR : Row1 enc (w.alloc (.cells #[av] 83)) g 0 (List.finRange (n + 1)).toArray := ⟨hO, hHd, by simp; omega⟩
        obtain ⟨ab, ac, hav, -, habl, hka⟩ := ints_of hko hk0
        have hag : ab ≠ g := by
          obtain ⟨-, ⟨-, h0⟩ | ⟨g', cap', cur', hve, -, hgh', -, -, -, -⟩⟩ := hko
          · omega
          rw [hav] at hve
          simp only [Value.slice.injEq, Option.some.injEq, Addr.mk.injEq] at hve
          obtain ⟨⟨rfl, -⟩, -, -⟩ := hve
          rintro rfl
          rw [hgh] at hgh'
          simp at hgh'
        have hcmp : CmpLays1 Tryz.prog 122 #[.pointer (some ⟨w.heap.size, 0, none⟩)] enc cf g 0 (List.finRange (n + 1)).toArray.size (w.alloc (.cells #[av] 83)) := by
          intro q os dk hdk i j
          obtain ⟨b, c, cu, e1, e2, e3, e4, e5, e6⟩ := hrow i
          obtain ⟨b', c', cu', f1, f2, f3, f4, f5, f6⟩ := hrow j
          have hwc : ∀ a : Addr, a.block ≠ g → a.block < w.heap.size → (sortWorld enc (w.alloc (.cells #[av] 83)) g 0 q dk os).cell? a = w.cell? a := fun a h h' => (sort_world_cell enc _ g q dk os a h (by simp; omega)).trans ((below_box w _).cell h')
          have hsz : w.heap.size + 1 ≤ (sortWorld enc (w.alloc (.cells #[av] 83)) g 0 q dk os).heap.size := by unfold sortWorld; simp
          have hap : (sortWorld enc (w.alloc (.cells #[av] 83)) g 0 q dk os).cell? ⟨w.heap.size, 0, none⟩ = some (.slice (some ⟨ab, 0, none⟩) ks.length ac) := by
            rw [sort_world_cell enc _ g q dk os _ (by show w.heap.size ≠ g; omega) (by simp), ← hav]
            simp
          have hh := sorted1_any b 0 c b' 0 c' ab 0 ac w.heap.size (row i) (row j) ks (sortWorld enc (w.alloc (.cells #[av] 83)) g 0 q dk os) (by omega) (fun k hk => by obtain ⟨z0, z1, z2⟩ := e4 k hk; exact ⟨(hwc _ e6 e3).trans z0, (hwc _ e6 e3).trans z1, (hwc _ e6 e3).trans z2⟩) (by omega) (fun k hk => by obtain ⟨z0, z1, z2⟩ := f4 k hk; exact ⟨(hwc _ f6 f3).trans z0, (hwc _ f6 f3).trans z1, (hwc _ f6 f3).trans z2⟩) (by omega) (fun k hk => (hwc _ hag habl).trans (hka k hk)) (by omega) hap (by rw [e5]; exact hkm) (by rw [f5]; exact hkm) hk6 (by omega) (by omega)
          rw [e1, f1]
          exact hh
        have ho : Stb.Ord (ltOf cf) := ⟨fun a b h => (ordR ks).asymm _ _ h, fun a b c h h' => (ordR ks).ntrans _ _ _ h h'⟩
        refine (Stb.sortStable_any enc cf 122 #[.pointer (some ⟨w.heap.size, 0, none⟩)] g 0 cap rs.length (List.finRange (n + 1)) (w.alloc (.cells #[av] 83)) ?eg hcmp ho hR hfl (by omega)).mono ?_
        case eg => intro args W; first | rfl | kernel_rfl
        rintro e w' ⟨rfl, l, s1, s2, hsw⟩
        refine ⟨rfl, l.map enc, l.map row, Stb.Sorted.map row s1, ?_, ?_, ?_, ?_⟩
        · have := Stb.Same.map (ordR ks) row s2
          rw [hfr] at this
          exact this
        · obtain ⟨q, os, rfl⟩ := hsw
          have hll : l.length = rs.length := by rw [← s2.len ho, hfl]
          unfold sortWorld
          exact owns_srt hll hgB ((hW0 g hgl).trans hgh) hcap hmx hcs
        · obtain ⟨q, os, rfl⟩ := hsw
          refine ⟨by simp, fun j hj hj' => ?_⟩
          simp only [List.getElem_map]
          have hi : (l[j]'(by simpa using hj)).1 < rs.length := by rw [hn]; exact (l[j]'(by simpa using hj)).2
          have hk := hH.2 (l[j]'(by simpa using hj)).1 (by rw [hun]; exact (l[j]'(by simpa using hj)).2) hi
          obtain ⟨b, c, cu, e1, e2, e3, e4, e5, e6⟩ := hrow (l[j]'(by simpa using hj))
          refine ⟨(hk.1.alloc _).kept (grown_srt (enc := enc) (n := q) (os := os) l.toArray) ?_, hk.2⟩
          refine Or.inr ?_
          show (enc (l[j]'(by simpa using hj))).ownBlock ≠ _
          rw [e1]
          show some b ≠ some g
          intro e
          exact e6 (Option.some.inj e)
        · obtain ⟨q, os, rfl⟩ := hsw
          have hb1 : Below B w (w.alloc (.cells #[av] 83)) := (Below.refl _ _).alloc hBw _
          have hgr := grown_srt (enc := enc) (w := w.alloc (.cells #[av] 83)) (g := g) (n := q) (os := os) l.toArray
          exact hb1.grown hgr (by simp; omega) (fun z hz => by cases hz; exact hgB)
  obtain ⟨a, c, rfl, hS⟩ := hS
  subst hav0
  have HS := Hid.mk hS
  clear hS hv hH hl hkm hko
  go_enter Tryz.func87, Tryz.ntmps87
  go_wp2_with (go_at_call 121; fail)
  refine HS.out.mono ?_
  rintro e w2 ⟨rfl, hq⟩
  have HF := Hid.mk hq
  clear hq
  go_wp2
  go_ret
  obtain ⟨us', rs', q1, q2, q3, q4, q5⟩ := HF.out
  exact ⟨us', rs', rfl, q1, q2, q3, q4, q5⟩
end Go.Proofs.YtjceppinfjbegaaGreatDoor

namespace Go.Proofs.YtjceppinfjbegaaGreatDoor
open Go.RowKit

namespace Stb
variable {α : Type}
/-- One more, put behind all that it is not ahead of. -/
def insL (lt : α → α → Bool) (x : α) : List α → List α
  | [] => [x]
  | y :: l => if lt x y = true then x :: y :: l else y :: insL lt x l
/-- A list, sorted; equals as they were. -/
def sortL (lt : α → α → Bool) (l : List α) : List α := l.foldl (fun acc x => insL lt x acc) []
theorem insL_mem {lt : α → α → Bool} {x z : α} : ∀ {l : List α}, z ∈ insL lt x l → z = x ∨ z ∈ l
  | [], h => by simp [insL] at h; exact Or.inl h
  | y :: l, h => by
    unfold insL at h
    split at h
    · rcases List.mem_cons.1 h with h | h
      · exact Or.inl h
      · exact Or.inr h
    · rcases List.mem_cons.1 h with h | h
      · exact Or.inr (by simp [h])
      · rcases insL_mem h with h | h
        · exact Or.inl h
        · exact Or.inr (by simp [h])
theorem insL_ok {lt : α → α → Bool} (ho : Ord lt) (x : α) : ∀ (l : List α), Sorted lt l → Sorted lt (insL lt x l) ∧ Same lt (l ++ [x]) (insL lt x l)
  | [], _ => ⟨List.pairwise_singleton _ _, Same.refl _ _⟩
  | y :: l, h => by
    obtain ⟨h1, h2⟩ := List.pairwise_cons.1 h
    unfold insL
    by_cases hx : lt x y = true
    · rw [if_pos hx]
      have hall : ∀ z ∈ y :: l, lt x z = true := fun z hz => by
        rcases List.mem_cons.1 hz with rfl | hz
        · exact hx
        · exact ho.lt_le hx (h1 z hz)
      refine ⟨List.pairwise_cons.2 ⟨fun z hz => ho.asymm _ _ (hall z hz), h⟩, ?_⟩
      exact Same.swap ho (X := y :: l) (Y := [x]) (fun z hz u hu => by simp at hu; subst hu; exact hall z hz)
    · rw [if_neg hx]
      obtain ⟨k1, k2⟩ := insL_ok ho x l h2
      have hx' : lt x y = false := by cases e : lt x y with | false => rfl | true => exact absurd e hx
      refine ⟨List.pairwise_cons.2 ⟨fun z hz => ?_, k1⟩, ?_⟩
      · rcases insL_mem hz with rfl | hz
        · exact hx'
        · exact h1 z hz
      · exact (Same.refl lt [y]).app k2
theorem sortL_ok {lt : α → α → Bool} (ho : Ord lt) (l : List α) : Sorted lt (sortL lt l) ∧ Same lt l (sortL lt l) := by
  have key : ∀ (l acc p : List α), Sorted lt acc → Same lt p acc → Sorted lt (l.foldl (fun acc x => insL lt x acc) acc) ∧ Same lt (p ++ l) (l.foldl (fun acc x => insL lt x acc) acc) := by
    intro l
    induction l with
    | nil => intro acc p h1 h2; exact ⟨h1, by simpa using h2⟩
    | cons x l ih =>
      intro acc p h1 h2
      obtain ⟨k1, k2⟩ := insL_ok ho x acc h1
      have := ih (insL lt x acc) (p ++ [x]) k1 ((h2.app (Same.refl lt [x])).trans k2)
      simpa using this
  have := key l [] [] List.Pairwise.nil (Same.refl _ _)
  rw [List.nil_append] at this
  exact this
theorem sortL_is {lt : α → α → Bool} (ho : Ord lt) {l l' : List α} (h1 : Sorted lt l') (h2 : Same lt l l') : l' = sortL lt l :=
  sorted_one ho h1 (sortL_ok ho l).1 (h2.symm.trans (sortL_ok ho l).2)
theorem sortL_len {lt : α → α → Bool} (ho : Ord lt) (l : List α) : (sortL lt l).length = l.length := ((sortL_ok ho l).2.len ho).symm
theorem sortL_mem {lt : α → α → Bool} (ho : Ord lt) {l : List α} {x : α} : x ∈ sortL lt l ↔ x ∈ l := ((sortL_ok ho l).2.mem ho).symm
end Stb
/-- Rows, sorted by some places. -/
def sortR (ks : List Nat) (rs : List (List Vl)) : List (List Vl) := Stb.sortL (ltR ks) rs
theorem sortR_len (ks : List Nat) (rs : List (List Vl)) : (sortR ks rs).length = rs.length := Stb.sortL_len (ordR ks) rs

set_option maxRecDepth 100000 in
set_option maxHeartbeats 800000 in
/-- wrong, of a job that sorts. -/
theorem wrong_sort (hb ho tk cin b o n c : Nat) (cs : List Cl) (ss : List ByteArray) (j : Jb) (w : World) (hcode : j.code = 4) (htk : 0 < tk) (hhb : hb < w.heap.size) (h0 : w.cell? ⟨hb, ho, none⟩ = some (.slice (some ⟨b, o, none⟩) n c)) (hs : StrsC w j.cols ss)
    (hn : cs.length = n) (hn' : n ≤ 100) (hbl : b < w.heap.size) (hc : ColsAt w b o cs) :
    Calls Tryz.prog 35 #[.agg j.cells, .slice (some ⟨hb, ho, none⟩) tk cin] w fun e w' => e = .returned (errV (listErr cs ss)) ∧ Below w.heap.size w w' := by
  have hT := fun W (h1 : Below w.heap.size w W) => wrongList_any j.cols .nilIface ss b o n c cs W (hs.below h1) hn hn' (by have := h1.size; omega) (hc.below h1 hbl)
  obtain ⟨ca, cc, hj, -⟩ := hs
  unfold Jb.cells
  rw [hj] at hT ⊢
  generalize listErr cs ss = r at *
  obtain ⟨code, hcd⟩ : ∃ k, j.code = k := ⟨_, rfl⟩
  rw [hcd] at hcode ⊢
  clear hcd
  subst hcode
  have HT := Hid.mk hT
  have htk' : (0 : Int) < (tk : Int) := by omega
  clear hT hn hc hj
  go_enter Tryz.func35, Tryz.ntmps35
  go_wp2_with (go_at_call 64; refine (HT.out _ (below_box _ _)).mono ?_; rintro e w1 ⟨rfl, hb1⟩)
  go_ret
  exact ⟨rfl, bel_then (below_box _ _) hb1⟩

set_option maxRecDepth 100000 in
set_option maxHeartbeats 1600000 in
/-- rowsOf, of a job that sorts. -/
theorem rowsOf_sort (tb to_ tk tcap : Nat) (vc vr : Value) (cs : List Cl) (rs : List (List Vl)) (j : Jb) (w : World) (ss : List ByteArray) (hcode : j.code = 4) (hs : StrsC w j.cols ss) (he : listErr cs ss = 0) (htk : 0 < tk) (htb : tb < w.heap.size) (t0 : w.cell? ⟨tb, to_, none⟩ = some vc) (t1 : w.cell? ⟨tb, to_ + 1, none⟩ = some vr)
    (hc : ColsIs w vc cs) (hr : RowsIs w vr rs) (h1 : 1 ≤ cs.length) (h6 : cs.length ≤ 100) (hl : ∀ r ∈ rs, r.length = cs.length) (h60 : rs.length ≤ 100) :
    Calls Tryz.prog 49 #[.agg j.cells, .slice (some ⟨tb, to_, none⟩) tk tcap] w fun e w' => ∃ v1 us1, e = .returned (.tuple #[v1, .slice none 0 0, .nilIface]) ∧ w'.ownsRow w.heap.size 62 1 v1 rs.length us1 ∧ HeldRows w' w.heap.size us1 (sortR (placesN cs ss) rs) ∧ Below w.heap.size w w' := by
  have hmf : ∀ (fn : Fn) (first cap : Array Value) (w : World), (Instr.makeFunc fn first cap).run Tryz.prog w = .ok (.func fn first cap) w := fun _ _ _ _ => rfl
  have HCP := Hid.mk (fun W (hW : Below w.heap.size w W) => copied_any vr rs cs.length W (hr.below hW) hl h1 h6 h60)
  obtain ⟨l0, l6, hall⟩ := listErr_0 he
  obtain ⟨ca, cc, hj, hcap, hml, hat⟩ := hs
  rcases hat with h | ⟨nb, no, rfl, hnl, hat⟩
  · rw [h] at l0; simp at l0
  obtain ⟨cb, co, vcp0, hve, hcbl, hcat⟩ := cols_at hc h1
  have hkl : (placesN cs ss).length = ss.length := by simp [placesN]
  have hPL := fun W (h1 : Below w.heap.size w W) => places_in nb no cc cb co cs.length vcp0 ss.length ss (placesN cs ss) cs W rfl (by omega) (by have := h1.size; omega) (hat.below h1 hnl) rfl h6 (by have := h1.size; omega) (hcat.below h1 hcbl) hkl (places_at hall)
  have hPJ := fun (v av : Value) (us : List Value) (B B2 : Nat) W (hv : W.ownsRow B 62 1 v rs.length us) (hH : HeldRows W B us rs) (hi : W.ownsRow B2 3 1 av (placesN cs ss).length (intCells (placesN cs ss))) (hB : B ≤ W.heap.size) => sorted_any v av us rs B B2 cs.length (placesN cs ss) W hv hH hl h1 h6 h60 hi (by omega) (by omega) (places_lt hall) hB
  have hk0 : 0 < (placesN cs ss).length := by omega
  generalize hks : placesN cs ss = ks at *
  have HPL := Hid.mk hPL
  have HPJ := Hid.mk hPJ
  have HK := Hid.mk hk0
  clear hPL hPJ hkl hall l0 l6 he hks hk0 hat hcap hml
  have htk' : (0 : Int) < (tk : Int) := by omega
  clear hl
  subst hve
  clear hc hcat
  obtain ⟨ra, rcp, rfl, -⟩ := hr
  have hJ0 : JobAt (w.alloc (.cells j.cells 28)) w.heap.size j := fun k v hk => by rw [World.cell?_alloc_at _ _ _ _ rfl]; exact hk
  have HJ0 := Hid.mk hJ0
  clear hJ0
  unfold Jb.cells at HJ0 ⊢
  rw [hcode, hj] at HJ0 ⊢
  have HCD := Hid.mk (And.intro hcode hj)
  clear hcode hj
  all_goals
    go_enter Tryz.func49, Tryz.ntmps49
    go_wp2_with fail
    go_cut [7, 8] (fun p v wx => ∃ (ab : Nat) (us : List Value), p = .pointer (some ⟨ab, 0, none⟩) ∧ wx.cell? ⟨ab, 0, none⟩ = some (.slice (some ⟨cb, co, none⟩) cs.length vcp0) ∧ ab < wx.heap.size ∧ wx.ownsRow (w.heap.size + 1) 62 1 v rs.length us ∧ HeldRows wx (w.heap.size + 1) us rs ∧ JobAt wx w.heap.size j ∧ Below w.heap.size w wx)
    case first =>
      go_region_held3 (fun w' => w'.cell? ⟨tb, to_, none⟩ = some (.slice (some ⟨cb, co, none⟩) cs.length vcp0) ∧ w'.cell? ⟨tb, to_ + 1, none⟩ = some (.slice ra rs.length rcp))
        (first | (go_keep; done) | exact ⟨(World.cell?_setCell_other _ _ _ _ (by intro e; simp at e; try omega)).trans k0, (World.cell?_setCell_other _ _ _ _ (by intro e; simp at e; try omega)).trans k1⟩)
        (first | (go_at_call 80; refine (HCP.out _ (by first | exact (below_box _ _).drew | exact (bel_box (below_box _ _) _).drew)).mono ?_; rintro e w1 ⟨v1, us, rfl, ho1, hh1, hb1⟩; have hb01 := bel_then (show Below w.heap.size w _ from (by first | exact (below_box _ _).drew | exact (bel_box (below_box _ _) _).drew)) hb1; have k0 := (hb01.cell (p := ⟨tb, to_, none⟩) htb).trans t0; have k1 := (hb01.cell (p := ⟨tb, to_ + 1, none⟩) htb).trans t1; have hz1 : tb < w1.heap.size := Nat.lt_of_lt_of_le htb hb01.size; (try (have kb := (hb1.cell (p := ⟨w.heap.size + 1, 0, none⟩) (by simp)).trans (show _ = some (Value.slice none 0 0) by simp); have kf := (hb1.frozen (p := ⟨w.heap.size + 1, 0, none⟩) (by simp)).trans (show _ = false by simp); have kz : w.heap.size + 1 < w1.heap.size := by (have := hb1.size; simp at this; omega)))))
      all_goals go_wp2_with fail
      all_goals go_meet
      · have hJ1 : JobAt w1 w.heap.size j := fun k v hk => (hb1.cell (p := ⟨w.heap.size, k, none⟩) (by simp)).trans (by simpa using HJ0.out k v hk)
        exact ⟨w1.heap.size, us, rfl, by simp, by simp, (own_mono (by simp) ho1).alloc _, (hh1.mono (by simp)).below (below_box _ _), hJ1.below (below_box _ _) (by have := hb1.size; simp at this; omega), bel_box hb01 _⟩
      · have hJ1 : JobAt w1 w.heap.size j := fun k v hk => (hb1.cell (p := ⟨w.heap.size, k, none⟩) (by simp; omega)).trans (by simpa using HJ0.out k v hk)
        exact ⟨w.heap.size + 1, us, rfl, World.cell?_setCell_same _ _ _ kb, by simpa using kz, own_mono (by simp) (ownsRow_setCell_below ho1 (by simp) _), (HeldRows.set hh1 (by simp)).mono (by simp), fun k v hk => (World.cell?_setCell_other _ _ _ _ (by intro e; simp at e)).trans (hJ1 k v hk), hb01.setCell (by show w.heap.size ≤ w.heap.size + 1; omega) _⟩
    case rest =>
      obtain ⟨ab, us, rfl, hab, habl, hv, hH, hJ, hbx⟩ := hcut
      have hwx := hbx.size
      have j1 : wc.cell? ⟨w.heap.size, 1, none⟩ = some (.int .i64 4) := by have := hJ 1 (.int .i64 j.code) rfl; rw [HCD.out.1] at this; exact this
      have j4 : wc.cell? ⟨w.heap.size, 4, none⟩ = some (.slice (some ⟨nb, no, none⟩) ss.length cc) := by have := hJ 4 j.cols rfl; rw [HCD.out.2] at this; exact this
      have hjl := hJ.lt
      have hrI := rows_of_held hv hH
      have HB := Hid.mk (And.intro hbx (And.intro hv hH))
      obtain ⟨xa, xc, rfl⟩ := own_slice hv
      clear hbx hv hH hJ hrI HCP HJ0 t0 t1
      go_wp2_with (first | (go_at_call 69; refine (HPL.out _ HB.out.1).mono ?_; rintro e w1 ⟨v1, rfl, ho1, hb1⟩; obtain ⟨ga, gc, rfl⟩ := own_slice ho1) | (go_at_call 87; refine (HPJ.out _ _ us _ _ _ (owns_below HB.out.2.1 hb1) (HB.out.2.2.below hb1) ho1 (by have := hb1.size; have := HB.out.2.1.1; omega)).mono ?_; rintro e w2 ⟨us2, rs2, rfl, q1, q2, ho2, hh2, hb2⟩))
      go_ret3
      have hs1 := hb1.size
      have hrs : rs2 = sortR ks rs := Stb.sortL_is (ordR ks) q1 q2
      subst hrs
      exact ⟨_, us2, rfl, own_mono (by omega) ho2, hh2.mono (by omega), (bel_then HB.out.1 hb1).trans (hb2.mono (Nat.le_succ _))⟩

theorem do_sort_bad (tb to_ tcap : Nat) (t : Tb) (j : Jb) (oa : Option Addr) (oc : Nat) (ss : List ByteArray) (w : World) (hcode : j.code = 4) (hout : j.outs = .slice oa 1 oc) (hs : StrsC w j.cols ss) (ht : TabsAt w tb to_ [t]) (htb : tb < w.heap.size) (hno : projNo t ss ≠ 0) :
    Calls Tryz.prog 15 #[.agg j.cells, .slice (some ⟨tb, to_, none⟩) 1 tcap] w fun e w' => e = .returned (.tuple #[.slice none 0 0, errV (projNo t ss)]) ∧ Below w.heap.size w w' := by
  have hmk : sizesI j.code = (((1 : Nat) : Int), ((1 : Nat) : Int)) := by rw [hcode]; rfl
  cases hr : rightB t.1 t.2
  · have : projNo t ss = 1 := by unfold projNo; rw [if_pos hr]
    rw [this]
    exact do_arg tb to_ tcap [t] j w ht htb (by simp) ⟨t, by simp, hr⟩
  · obtain ⟨hr1, hr2, hr3, hr4⟩ := right_len hr
    have hn : projNo t ss = listErr t.1 ss := by unfold projNo; rw [if_neg (by simp [hr])]
    rw [hn] at hno ⊢
    refine do_bad tb to_ tcap [t] j w ht htb (by simp) (by simp) (by intro x hx'; simp at hx'; rw [hx']; exact hr) _ hno ?_
    intro W B g cap us hW ho hh
    obtain ⟨b, o, c, hc0, hgl, hbl, hat⟩ := head_of ho hh hr1
    exact cols_bad _ oa cap oc j 1 1 _ W hout hmk (by decide) hno (fun W' hW' => wrong_sort g 0 1 cap b o t.1.length c t.1 ss j W' hcode (by decide) (Nat.lt_of_lt_of_le hgl hW'.size) ((hW'.cell (p := ⟨g, 0, none⟩) hgl).trans hc0) ((hs.below hW).below hW') rfl (by omega) (Nat.lt_of_lt_of_le hbl hW'.size) (hat.below hW' hbl))

theorem do_sort_ok (tb to_ tcap : Nat) (t : Tb) (j : Jb) (oa : Option Addr) (oc : Nat) (ss : List ByteArray) (w : World) (hcode : j.code = 4) (hout : j.outs = .slice oa 1 oc) (hs : StrsC w j.cols ss) (ht : TabsAt w tb to_ [t]) (htb : tb < w.heap.size) (hno : projNo t ss = 0) :
    Calls Tryz.prog 15 #[.agg j.cells, .slice (some ⟨tb, to_, none⟩) 1 tcap] w fun e w' => ∃ g c, e = .returned (.tuple #[.slice (some ⟨g, 0, none⟩) 1 c, .nilIface]) ∧ w.heap.size ≤ g ∧ g < w'.heap.size ∧ TabsNew w' w.heap.size g [(t.1, sortR (placesN t.1 ss) t.2)] ∧ Below w.heap.size w w' := by
  have hmk : sizesI j.code = (((1 : Nat) : Int), ((1 : Nat) : Int)) := by rw [hcode]; rfl
  obtain ⟨hr, he⟩ := projNo_0 hno
  obtain ⟨hr1, hr2, hr3, hr4⟩ := right_len hr
  obtain ⟨vc, vr, c0, c1, hc, hrs⟩ := ht 0 (by simp)
  refine do_ok1 tb to_ tcap [t] j w ht htb (by simp) (by simp) (by intro x hx'; simp at hx'; rw [hx']; exact hr) t.1 (sortR (placesN t.1 ss) t.2) [] (by rw [sortR_len]; exact hr3) (cols_size hc) ?_ (fun W hW => ?_)
  · intro W B g cap us hW ho hh
    obtain ⟨b, o, c, hc0, hgl, hbl, hat⟩ := head_of ho hh hr1
    refine cols_ok _ oa cap oc j 1 1 t.1 W hout hmk (by decide) (by decide) (fun W' hW' => ?_) (fun W' hW' => columns_same g 0 1 cap b o t.1.length c t.1 j W' (Or.inr (Or.inr (Or.inr (Or.inl hcode)))) (by decide) (Nat.lt_of_lt_of_le hgl hW'.size) ((hW'.cell (p := ⟨g, 0, none⟩) hgl).trans hc0) rfl (by omega) (Nat.lt_of_lt_of_le hbl hW'.size) (hat.below hW' hbl))
    have := wrong_sort g 0 1 cap b o t.1.length c t.1 ss j W' hcode (by decide) (Nat.lt_of_lt_of_le hgl hW'.size) ((hW'.cell (p := ⟨g, 0, none⟩) hgl).trans hc0) ((hs.below hW).below hW') rfl (by omega) (Nat.lt_of_lt_of_le hbl hW'.size) (hat.below hW' hbl)
    rw [he] at this
    exact this
  · refine (rowsOf_sort tb to_ 1 tcap vc vr t.1 t.2 j W ss hcode (hs.below hW) he (by decide) (Nat.lt_of_lt_of_le htb hW.size) ((hW.cell (p := ⟨tb, to_, none⟩) htb).trans (by simpa using c0)) ((hW.cell (p := ⟨tb, to_ + 1, none⟩) htb).trans (by simpa using c1)) (hc.below hW) (hrs.below hW) hr1 (by omega) hr4 (by omega)).mono ?_
    rintro e w' ⟨v1, us1, h1, h2, h3, hb⟩
    exact ⟨v1, .slice none 0 0, us1, [], h1, by rw [sortR_len]; exact h2, h3, World.ownsRow_nil _ _ _ _, HeldRows.nil _ _, hb⟩

set_option maxRecDepth 100000 in
theorem one_sort (j : Jb) (ss : List ByteArray) (vc vr : Value) (cs : List Cl) (rs : List (List Vl)) (W : World) (H : Nat) (hH : W.heap.size = H) (hc : ColsIs W vc cs) (hr : RowsIs W vr rs) (hcode : j.code = 4) (hs : StrsC W j.cols ss) :
    Calls Tryz.prog 19 #[.agg j.cells, .slice (some ⟨H, 0, none⟩) 1 1] (W.alloc (.cells #[vc, vr] 36)) fun e w' => OneRes e w' W.heap.size (projNo (cs, rs) ss = 0) (cs, sortR (placesN cs ss) rs) ∧ Below (W.alloc (.cells #[vc, vr] 36)).heap.size (W.alloc (.cells #[vc, vr] 36)) w' := by
  have ht := tabs_new W vc vr (cs, rs) 36 H hH hc hr
  have hcd : 1 ≤ j.code ∧ j.code ≤ 8 := by rw [hcode]; exact ⟨by decide, by decide⟩
  have hs' := hs.below (below_box W (.cells #[vc, vr] 36))
  by_cases hok : projNo (cs, rs) ss = 0
  · refine (one_ok H 0 1 1 j (cs, sortR (placesN cs ss) rs) _ hcd (fun W' H' hW' _ => ?_)).mono ?_
    · exact do_sort_ok H 0 1 (cs, rs) (j.withOuts (.slice (some ⟨H', 0, none⟩) 1 2)) (some ⟨H', 0, none⟩) 2 ss W' hcode rfl (hs'.below hW') (ht.below hW' (by simp; omega)) (by have := hW'.size; simp at this; omega) hok
    · rintro e w' ⟨x, y, rfl, h1, h2, h3⟩
      exact ⟨Or.inl ⟨hok, x, y, rfl, h1.mono (by simp), h2.mono (by simp)⟩, h3⟩
  · refine (one_bad H 0 1 1 j (projNo (cs, rs) ss) _ hcd hok (fun W' H' hW' _ => ?_)).mono ?_
    · exact do_sort_bad H 0 1 (cs, rs) (j.withOuts (.slice (some ⟨H', 0, none⟩) 1 2)) (some ⟨H', 0, none⟩) 2 ss W' hcode rfl (hs'.below hW') (ht.below hW' (by simp; omega)) (by have := hW'.size; simp at this; omega) hok
    · rintro e w' ⟨rfl, h3⟩
      exact ⟨Or.inr ⟨hok, rfl⟩, h3⟩

end Go.Proofs.YtjceppinfjbegaaGreatDoor

