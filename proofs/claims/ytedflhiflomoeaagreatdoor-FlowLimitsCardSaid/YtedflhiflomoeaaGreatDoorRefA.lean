import Derived.Test.YtedflhiflomoeaaGreatDoorFlwP
set_option linter.unusedSimpArgs false
set_option linter.unusedVariables false
namespace Go.Proofs.YtedflhiflomoeaaGreatDoor
open Go.RowKit

/-- What the variables hold that the document's own reader reads. -/
def refVars : List Nat := [0, 2] ++ flowVars
structure REnv (w : World) : Prop where
  size : ∀ g, g ∈ refVars → g < w.heap.size
  f0 : w.cell? ⟨0, 0, none⟩ = some (.int .i64 0)
  f1 : w.cell? ⟨0, 1, none⟩ = some (.int .i64 (-1))
  ml : ∃ m, w.cell? ⟨2, 0, none⟩ = some (.int .i64 m)
  fl : FEnv w
theorem REnv.blocks {w w' : World} (h : REnv w) (hs : w.heap.size ≤ w'.heap.size) (hb : ∀ g, g ∈ refVars → w'.heap[g]? = w.heap[g]?) : REnv w' := by
  have hc : ∀ g, g ∈ refVars → ∀ j, w'.cell? ⟨g, j, none⟩ = w.cell? ⟨g, j, none⟩ := fun g hg j => World.cell?_of_block (w := w) (hb g hg)
  obtain ⟨m, hm⟩ := h.ml
  refine ⟨fun g hg => Nat.lt_of_lt_of_le (h.size g hg) hs, ?_, ?_, ⟨m, ?_⟩, h.fl.blocks hs (fun g hg => hb g (List.mem_append_right _ hg))⟩
  · rw [hc _ (by simp [refVars])]; exact h.f0
  · rw [hc _ (by simp [refVars])]; exact h.f1
  · rw [hc _ (by simp [refVars])]; exact hm
theorem REnv.below {w w' : World} (h : REnv w) (hb : Below w.heap.size w w') : REnv w' := h.blocks hb.size (fun g hg => hb.block g (h.size g hg))
/-- Tokens of the document's own reader: kinds from 1 on. -/
def RToks (w : World) (b o : Nat) (ts : List Tk) : Prop :=
  ∀ (j : Nat) (h : j < ts.length), w.cell? ⟨b, o + j * 3, none⟩ = some (.int .i64 ((ts[j].1 + 1 : Nat) : Int)) ∧ w.cell? ⟨b, o + j * 3 + 1, none⟩ = some (.string (ba ts[j].2.1)) ∧ w.cell? ⟨b, o + j * 3 + 2, none⟩ = some (.int .i64 ts[j].2.2)
theorem RToks.cells {w w' : World} {b o : Nat} {ts : List Tk} (h : RToks w b o ts) (hc : ∀ i, w'.cell? ⟨b, i, none⟩ = w.cell? ⟨b, i, none⟩) : RToks w' b o ts :=
  fun j hj => ⟨(hc _).trans (h j hj).1, (hc _).trans (h j hj).2.1, (hc _).trans (h j hj).2.2⟩
theorem RToks.tail {w : World} {b o : Nat} {t : Tk} {r : List Tk} (h : RToks w b o (t :: r)) : RToks w b (o + 3) r := by
  intro j hj
  have := h (j + 1) (by simp; omega)
  rw [show o + (j + 1) * 3 = o + 3 + j * 3 by omega] at this
  simpa using this
abbrev Bd := Option (Int × Nat)
def errR (b : Bd) : Int := match b with | none => 0 | some e => e.1
def plR (b : Bd) : Int := match b with | none => -1 | some e => (e.2 : Int)
/-- What the tokens of a text are, besides. -/
def TkR (t : Tk) : Prop := (t.1 = 4 → t.2.1 = []) ∧ (t.1 = 1 → Lib.atoiAll t.2.1 ≠ Lib.atoiAll []) ∧ (t.1 = 2 → ∃ s : By, t.2.1 = 39 :: s ++ [39] ∧ 39 ∉ s)
/-- The document's own reader, at a block. -/
structure RF (w : World) (R : Nat) (ts : List Tk) (bad : Bd) : Prop where
  box : ∃ b o c, Box w R [.slice (some ⟨b, o, none⟩) ts.length c, .int .i64 (errR bad), .int .i64 (plR bad)] ∧ ts.length ≤ c ∧ b < R ∧ RToks w b o ts
  good : GoodT ts
  env : REnv w
  out : ∀ g, g ∈ refVars → g < R
  end4 : ∀ t ∈ ts, TkR t
theorem RF.lt {w : World} {R : Nat} {ts : List Tk} {bad : Bd} (h : RF w R ts bad) : R < w.heap.size := by
  obtain ⟨b, o, c, hx, -⟩ := h.box
  exact hx.lt
theorem RF.below {w w' : World} {R : Nat} {ts : List Tk} {bad : Bd} (h : RF w R ts bad) (hb : Below w.heap.size w w') : RF w' R ts bad := by
  obtain ⟨b, o, c, hx, hl, hR, ht⟩ := h.box
  have hlt := hx.lt
  exact ⟨⟨b, o, c, hx.below hb, hl, hR, ht.cells (fun i => hb.cell (p := ⟨b, i, none⟩) (by show b < _; omega))⟩, h.good, h.env.below hb, h.out, h.end4⟩
/-- Another block is written. -/
theorem RF.other {w w' : World} {R : Nat} {ts : List Tk} {bad : Bd} {k : Nat} (h : RF w R ts bad) (hk : R < k) (hs : w.heap.size ≤ w'.heap.size) (hb : ∀ i, i < w.heap.size → i ≠ k → w'.heap[i]? = w.heap[i]?) : RF w' R ts bad := by
  obtain ⟨b, o, c, hx, hl, hR, ht⟩ := h.box
  have hlt := hx.lt
  have hg : ∀ g, g ≤ R → w'.heap[g]? = w.heap[g]? := fun g hg => hb g (by omega) (by omega)
  exact ⟨⟨b, o, c, hx.block (hg R (Nat.le_refl _)), hl, hR, ht.cells (fun i => World.cell?_of_block (w := w) (hg b (by omega)))⟩, h.good, h.env.blocks hs (fun g hm => hg g (Nat.le_of_lt (h.out g hm))), h.out, h.end4⟩
theorem RF.head {w : World} {R : Nat} {ts : List Tk} {bad : Bd} (h : RF w R ts bad) : ∃ (b o c : Nat) (n : Nat), w.cell? ⟨R, 0, none⟩ = some (.slice (some ⟨b, o, none⟩) (n + 1) c) ∧ n + 1 = ts.length ∧ n + 1 ≤ c ∧ b < R ∧ n ≤ 1000 ∧ w.cell? ⟨b, o, none⟩ = some (.int .i64 ((kindT ts + 1 : Nat) : Int)) ∧ w.cell? ⟨b, o + 1, none⟩ = some (.string (ba (textT ts))) ∧ w.cell? ⟨b, o + 2, none⟩ = some (.int .i64 (hereT ts)) ∧ w.cell? ⟨R, 1, none⟩ = some (.int .i64 (errR bad)) ∧ w.cell? ⟨R, 2, none⟩ = some (.int .i64 (plR bad)) := by
  obtain ⟨b, o, c, hx, hl, hR, ht⟩ := h.box
  obtain ⟨t, r, rfl⟩ := h.good.ne
  have h0 := ht 0 (by simp)
  have hn := h.good.len
  have e0 := hx.cell 0 rfl
  have e1 := hx.cell 1 rfl
  have e2 := hx.cell 2 rfl
  simp only [List.length_cons] at e0 hl hn
  refine ⟨b, o, c, r.length, e0, rfl, hl, hR, by omega, ?_, ?_, ?_, e1, e2⟩
  · simpa [kindT] using h0.1
  · simpa [textT] using h0.2.1
  · simpa [hereT] using h0.2.2
theorem RF.fz {w : World} {R : Nat} {ts : List Tk} {bad : Bd} (h : RF w R ts bad) (i : Nat) : w.frozen? ⟨R, i, none⟩ = false := by
  obtain ⟨b, o, c, hx, -⟩ := h.box
  exact hx.fz i
theorem RF.taken {w : World} {R b o c n : Nat} {ts : List Tk} {bad : Bd} (h : RF w R ts bad) (hn : kindT ts ≠ 4 ∨ textT ts ≠ []) (hc : w.cell? ⟨R, 0, none⟩ = some (.slice (some ⟨b, o, none⟩) (n + 1) c)) :
    RF (w.setCell ⟨R, 0, none⟩ (.slice (some ⟨b, o + 3, none⟩) n (c - 1))) R ts.tail bad := by
  obtain ⟨b', o', c', hx, hl, hR, ht⟩ := h.box
  have hlt := hx.lt
  have e0 := hx.cell 0 rfl
  rw [hc] at e0
  simp only [Option.some.injEq, Value.slice.injEq, Addr.mk.injEq, and_true] at e0
  obtain ⟨⟨rfl, rfl⟩, hn1, rfl⟩ := e0
  obtain ⟨t, r, rfl⟩ := h.good.ne
  simp only [List.length_cons] at hl hn1
  obtain rfl : n = r.length := by omega
  have hB := But.set R 0 w (.slice (some ⟨b, o + 3, none⟩) r.length (c - 1))
  have hsz : (w.setCell ⟨R, 0, none⟩ (.slice (some ⟨b, o + 3, none⟩) r.length (c - 1))).heap.size = w.heap.size := by simp [World.setCell]
  refine ⟨⟨b, o + 3, c - 1, hx.set 0 _, by simp only [List.tail_cons]; omega, hR, (ht.tail).cells (fun i => hB.cell (p := ⟨b, i, none⟩) (by show b < _; omega) (by show b ≠ R; omega))⟩, h.good.tail hn, h.env.blocks hB.size (fun g hg => hB.block g (h.env.size g hg) (by intro e; injection e with e; have := h.out g hg; omega)), h.out, fun t ht => h.end4 t (List.mem_of_mem_tail ht)⟩
theorem RF.failed {w : World} {R : Nat} {ts : List Tk} {bad : Bd} (h : RF w R ts bad) (c : Int) (p : Nat) : RF ((w.setCell ⟨R, 1, none⟩ (.int .i64 c)).setCell ⟨R, 2, none⟩ (.int .i64 (p : Nat))) R ts (some (c, p)) := by
  obtain ⟨b, o, cc, hx, hl, hR, ht⟩ := h.box
  have hlt := hx.lt
  have hB1 := But.set R 1 w (.int .i64 c)
  have hB := hB1.then (But.set R 2 _ (.int .i64 (p : Nat)))
  exact ⟨⟨b, o, cc, (hx.set 1 (.int .i64 c)).set 2 (.int .i64 (p : Nat)), hl, hR, ht.cells (fun i => hB.cell (p := ⟨b, i, none⟩) (by show b < _; omega) (by show b ≠ R; omega))⟩, h.good, h.env.blocks hB.size (fun g hg => hB.block g (h.env.size g hg) (by intro e; injection e with e; have := h.out g hg; omega)), h.out, h.end4⟩
/-- Reading so far: the tokens that are left, or what was wrong first. -/
abbrev QS := Except (Int × Nat) (List Tk)
def RX (w : World) (R : Nat) (q : QS) : Prop := match q with
  | .ok ts => RF w R ts none
  | .error e => ∃ ts, RF w R ts (some e)
theorem RX.below {w w' : World} {R : Nat} {q : QS} (h : RX w R q) (hb : Below w.heap.size w w') : RX w' R q := by
  cases q with
  | ok ts => exact RF.below h hb
  | error e => obtain ⟨ts, h⟩ := h; exact ⟨ts, h.below hb⟩
theorem RX.lt {w : World} {R : Nat} {q : QS} (h : RX w R q) : R < w.heap.size := by
  cases q with
  | ok ts => exact RF.lt h
  | error e => obtain ⟨ts, h⟩ := h; exact h.lt
def bdR (q : QS) : Bd := match q with | .ok _ => none | .error e => some e
theorem RX.any {w : World} {R : Nat} {q : QS} (h : RX w R q) : ∃ ts, RF w R ts (bdR q) ∧ (∀ t, q = .ok t → t = ts) := by
  cases q with
  | ok ts => exact ⟨ts, h, fun t e => by cases e; rfl⟩
  | error e => obtain ⟨ts, h⟩ := h; exact ⟨ts, h, fun t e => by cases e⟩
theorem RX.env {w : World} {R : Nat} {q : QS} (h : RX w R q) : REnv w := by
  obtain ⟨ts, h, -⟩ := h.any
  exact h.env
/-- What comes of a part: its value, as it lies; the state behind it. -/
def RC {α : Type} (p : PE α) (enc : α → Value → World → Prop) (shape : Value → Prop) (R : Nat) (w : World) (e : Ending) (w' : World) : Prop :=
  ∃ v, e = .returned v ∧ shape v ∧ But R w w' ∧ (∀ a ts, p = .ok (a, ts) → enc a v w') ∧ RX w' R (p.map (·.2))
set_option maxHeartbeats 800000 in
theorem okr_any (R : Nat) (ts : List Tk) (bad : Bd) (w : World) (h : RF w R ts bad) : Calls Tryz.prog 16 #[.pointer (some ⟨R, 0, none⟩)] w fun e w' => e = .returned (.bool bad.isNone) ∧ Below w.heap.size w w' := by
  obtain ⟨b, o, cc, n, hc, hn, hcc, hR, hn1, k0, k1, k2, e1, e2⟩ := h.head
  have hlt := h.lt
  have g0 := h.env.f0
  have g1 := h.env.f1
  cases bad with
  | none =>
    change w.cell? ⟨R, 1, none⟩ = some (.int .i64 0) at e1
    change w.cell? ⟨R, 2, none⟩ = some (.int .i64 (-1)) at e2
    go_enter Tryz.func16, Tryz.ntmps16
    go_wp2
    go_quiet (fail)
    go_wp2
    go_ret
    exact ⟨rfl, below_drewN (Below.refl _ _) _⟩
  | some e =>
    obtain ⟨c, p⟩ := e
    change w.cell? ⟨R, 1, none⟩ = some (.int .i64 c) at e1
    change w.cell? ⟨R, 2, none⟩ = some (.int .i64 (p : Nat)) at e2
    have hp : ((p : Int) == -1) = false := by simp
    by_cases h0 : c = 0
    · subst h0
      go_enter Tryz.func16, Tryz.ntmps16
      go_wp2
      go_quiet (fail)
      go_wp2
      go_ret
      exact ⟨rfl, below_drewN (Below.refl _ _) _⟩
    · have hc0 : (c == 0) = false := by simp [h0]
      go_enter Tryz.func16, Tryz.ntmps16
      go_wp2
      go_quiet (fail)
      go_wp2
      go_ret
      exact ⟨rfl, below_drewN (Below.refl _ _) _⟩
set_option maxHeartbeats 800000 in
theorem failsr_any (R : Nat) (ts : List Tk) (bad : Bd) (c : Int) (w : World) (h : RF w R ts bad) : Calls Tryz.prog 11 #[.pointer (some ⟨R, 0, none⟩), .int .i64 c] w fun e w' => e = .returned (.tuple #[]) ∧ But R w w' ∧ RF w' R ts (bad.or (some (c, hereT ts))) := by
  have HO := Hid.mk (okr_any R ts bad w h)
  have H := Hid.mk h
  clear h
  cases bad with
  | none =>
    go_enter Tryz.func11, Tryz.ntmps11
    go_wp2_with (go_at_call 16; refine HO.out.mono ?_; rintro e w1 ⟨rfl, hb1⟩; have H1 := Hid.mk (H.out.below hb1); have HB1 := Hid.mk hb1; obtain ⟨b, o, cc, n, hc, hn, hcc, hR, hn1, k0, k1, k2, e1, e2⟩ := H1.out.head; have hf0 := H1.out.fz 1; have hf1 := H1.out.fz 2; have hlt := H1.out.lt; clear hb1)
    go_end0
    exact ⟨rfl, (But.of HB1.out).then ((But.set R 1 _ _).then (But.set R 2 _ _)), H1.out.failed c (hereT ts)⟩
  | some e =>
    go_enter Tryz.func11, Tryz.ntmps11
    go_wp2_with (go_at_call 16; refine HO.out.mono ?_; rintro e w1 ⟨rfl, hb1⟩)
    go_end0
    exact ⟨rfl, But.of hb1, H.out.below hb1⟩
/-- The state that a list of tokens, and what is wrong, are. -/
def qs (ts : List Tk) (bad : Bd) : QS := match bad with | none => .ok ts | some e => .error e
theorem RF.x {w : World} {R : Nat} {ts : List Tk} {bad : Bd} (h : RF w R ts bad) : RX w R (qs ts bad) := by
  cases bad with
  | none => exact h
  | some e => exact ⟨ts, h⟩
def seeB (x : By) (ts : List Tk) (bad : Bd) : Bool := bad.isNone && textT ts == x
def takeT (x : By) (ts : List Tk) (bad : Bd) : List Tk := if seeB x ts bad then ts.tail else ts
theorem RF.text4 {w : World} {R : Nat} {ts : List Tk} {bad : Bd} (h : RF w R ts bad) (h4 : kindT ts = 4) : textT ts = [] := by
  obtain ⟨t, r, rfl⟩ := h.good.ne
  exact (h.end4 t (by simp)).1 h4
set_option maxHeartbeats 800000 in
theorem seer_any (x : By) (R : Nat) (ts : List Tk) (bad : Bd) (w : World) (h : RF w R ts bad) (hx : x ≠ []) : Calls Tryz.prog 10 #[.pointer (some ⟨R, 0, none⟩), .string (ba x)] w fun e w' => e = .returned (.bool (seeB x ts bad)) ∧ Below w.heap.size w w' := by
  have HO := Hid.mk (okr_any R ts bad w h)
  have H := Hid.mk h
  clear h
  cases bad with
  | none =>
    by_cases h4 : kindT ts = 4
    · have hb : seeB x ts none = false := by
        unfold seeB
        rw [H.out.text4 h4]
        cases x with
        | nil => exact absurd rfl hx
        | cons a l => rfl
      rw [hb]
      clear hb
      go_enter Tryz.func10, Tryz.ntmps10
      go_wp2_with (go_at_call 16; refine HO.out.mono ?_; rintro e w1 ⟨rfl, hb1⟩; have H1 := Hid.mk (H.out.below hb1); have HB1 := Hid.mk hb1; obtain ⟨b, o, cc, n, hc, hn, hcc, hR, hn1, k0, k1, k2, e1, e2⟩ := H1.out.head; have hlt := H1.out.lt; rw [h4] at k0; clear hb1 k1 k2 e1 e2)
      go_ret
      exact ⟨rfl, HB1.out⟩
    · have h5 : ((kindT ts + 1 : Nat) : Int) ≠ 5 := by omega
      have h5b : (((kindT ts + 1 : Nat) : Int) != 5) = true := by simp; omega
      have hsb : seeB x ts none = (textT ts == x) := by simp [seeB]
      rw [hsb]
      clear hsb
      generalize hK : ((kindT ts + 1 : Nat) : Int) = K at *
      go_enter Tryz.func10, Tryz.ntmps10
      go_wp2_with (go_at_call 16; refine HO.out.mono ?_; rintro e w1 ⟨rfl, hb1⟩; have H1 := Hid.mk (H.out.below hb1); have HB1 := Hid.mk hb1; obtain ⟨b, o, cc, n, hc, hn, hcc, hR, hn1, k0, k1, k2, e1, e2⟩ := H1.out.head; have hlt := H1.out.lt; rw [hK] at k0; clear hb1 k2 e1 e2)
      go_ret
      exact ⟨rfl, HB1.out⟩
  | some e =>
    have hb : seeB x ts (some e) = false := rfl
    rw [hb]
    clear hb
    go_enter Tryz.func10, Tryz.ntmps10
    go_wp2_with (go_at_call 16; refine HO.out.mono ?_; rintro e w1 ⟨rfl, hb1⟩; have HB1 := Hid.mk hb1; clear hb1)
    go_ret
    exact ⟨rfl, HB1.out⟩
set_option maxHeartbeats 800000 in
theorem taker_any (x : By) (R : Nat) (ts : List Tk) (bad : Bd) (w : World) (h : RF w R ts bad) (hx : x ≠ []) : Calls Tryz.prog 28 #[.pointer (some ⟨R, 0, none⟩), .string (ba x)] w fun e w' => e = .returned (.bool (seeB x ts bad)) ∧ But R w w' ∧ RF w' R (takeT x ts bad) bad := by
  have HS := Hid.mk (seer_any x R ts bad w h hx)
  have H := Hid.mk h
  clear h
  unfold takeT
  cases hsb : seeB x ts bad with
  | false =>
    rw [hsb] at HS
    rw [if_neg (by simp)]
    clear hsb
    go_enter Tryz.func28, Tryz.ntmps28
    go_wp2_with (go_at_call 10; refine HS.out.mono ?_; rintro e w1 ⟨rfl, hb1⟩; have HB1 := Hid.mk hb1; clear hb1)
    go_ret
    exact ⟨rfl, But.of HB1.out, H.out.below HB1.out⟩
  | true =>
    rw [hsb] at HS
    rw [if_pos rfl]
    have htx : textT ts ≠ [] := by
      unfold seeB at hsb
      simp only [Bool.and_eq_true, beq_iff_eq] at hsb
      rw [hsb.2]; exact hx
    clear hsb
    go_enter Tryz.func28, Tryz.ntmps28
    go_wp2_with (go_at_call 10; refine HS.out.mono ?_; rintro e w1 ⟨rfl, hb1⟩; have H1 := Hid.mk (H.out.below hb1); have HB1 := Hid.mk hb1; obtain ⟨b, o, cc, n, hc, hn, hcc, hR, hn1, k0, k1, k2, e1, e2⟩ := H1.out.head; have HT := Hid.mk (H1.out.taken (Or.inr htx) hc); have hf0 := H1.out.fz 0; have hlt := H1.out.lt; have hc1 : ¬ cc = 1 := (fun q => by
      have hn0 : n = 0 := by omega
      obtain ⟨t, r, hr⟩ := HT.out.good.ne
      have hl : ts.tail.length = 0 := by rw [List.length_tail]; omega
      rw [hr] at hl
      simp at hl); clear hb1 k0 k1 k2 e1 e2 hn)
    go_ret
    exact ⟨rfl, (But.of HB1.out).then (But.set R 0 _ _), HT.out⟩
end Go.Proofs.YtedflhiflomoeaaGreatDoor
