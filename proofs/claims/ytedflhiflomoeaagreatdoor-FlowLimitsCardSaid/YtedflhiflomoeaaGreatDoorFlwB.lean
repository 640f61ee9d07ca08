import Derived.Test.YtedflhiflomoeaaGreatDoorFlwA
import Derived.WalkLawsBesides
set_option linter.unusedSimpArgs false
set_option linter.unusedVariables false
namespace Go.Proofs.YtedflhiflomoeaaGreatDoor
open Go.RowKit

/-- What the program's own variables hold, as far as package flow reads them. -/
def verbs0 : List By := [] :: verbsL
def kinds0 : List By := [[], wInt, wText]
def flowVars : List Nat := [1, 7, 3, 5, 6, 10]
theorem var?_block {P : Program} {g : Nat} {W W' : World} {n : String} {cs : Array Value} (hg : P.globalNamed n = some g) (hb : W'.heap[g]? = W.heap[g]?) (hv : W.var? P n = some cs) : W'.var? P n = some cs := by
  unfold World.var? at hv ⊢
  simp only [hg, Option.bind_some] at hv ⊢
  rw [hb]
  exact hv
structure FEnv (w : World) : Prop where
  size : ∀ g, g ∈ flowVars → g < w.heap.size
  mr : ∀ (j : Nat) (h : j < marksL.length), w.cell? ⟨1, j, none⟩ = some (.string (ba marksL[j]))
  vb : ∀ (j : Nat) (h : j < verbs0.length), w.cell? ⟨7, j, none⟩ = some (.string (ba verbs0[j]))
  kd : ∀ (j : Nat) (h : j < kinds0.length), w.cell? ⟨3, j, none⟩ = some (.string (ba kinds0[j]))
  es : ∃ tp p, w.var? Tryz.prog "strconv.ErrSyntax" = some #[.iface tp p]
  er : ∃ tp p, w.var? Tryz.prog "strconv.ErrRange" = some #[.iface tp p]
  pw : Lib.TabIs Tryz.prog w "internal/strconv.uint64pow10" .u64 Lib.pow10Tab
theorem FEnv.blocks {w w' : World} (h : FEnv w) (hs : w.heap.size ≤ w'.heap.size) (hb : ∀ g, g ∈ flowVars → w'.heap[g]? = w.heap[g]?) : FEnv w' := by
  have hc : ∀ g, g ∈ flowVars → ∀ j, w'.cell? ⟨g, j, none⟩ = w.cell? ⟨g, j, none⟩ := fun g hg j => World.cell?_of_block (w := w) (hb g hg)
  refine ⟨fun g hg => Nat.lt_of_lt_of_le (h.size g hg) hs, fun j hj => ?_, fun j hj => ?_, fun j hj => ?_, ?_, ?_, ?_⟩
  · rw [hc _ (by simp [flowVars])]; exact h.mr j hj
  · rw [hc _ (by simp [flowVars])]; exact h.vb j hj
  · rw [hc _ (by simp [flowVars])]; exact h.kd j hj
  · obtain ⟨tp, p, hv⟩ := h.es
    exact ⟨tp, p, var?_block (g := 5) (by kernel_rfl) (hb _ (by simp [flowVars])) hv⟩
  · obtain ⟨tp, p, hv⟩ := h.er
    exact ⟨tp, p, var?_block (g := 6) (by kernel_rfl) (hb _ (by simp [flowVars])) hv⟩
  · exact var?_block (g := 10) (by kernel_rfl) (hb _ (by simp [flowVars])) h.pw

/-- All is as it was, but one block. -/
abbrev But (R : Nat) (w w' : World) : Prop := w.grownBy w' (some R)
theorem But.refl (R : Nat) (w : World) : But R w w := ⟨rfl, rfl, rfl, Nat.le_refl _, fun _ _ _ => rfl⟩
theorem But.of {R : Nat} {w w' : World} (h : Below w.heap.size w w') : But R w w' := ⟨h.os, h.tape, h.output, h.size, fun k hk _ => h.block k hk⟩
theorem But.then {R : Nat} {a b c : World} (h : But R a b) (k : But R b c) : But R a c :=
  ⟨k.os.trans h.os, k.tape.trans h.tape, k.output.trans h.output, Nat.le_trans h.size k.size, fun i hi hne => (k.block i (Nat.lt_of_lt_of_le hi h.size) hne).trans (h.block i hi hne)⟩
theorem But.cell {R : Nat} {w w' : World} (h : But R w w') {p : Addr} (hp : p.block < w.heap.size) (hR : p.block ≠ R) : w'.cell? p = w.cell? p :=
  World.cell?_of_block (w := w) (h.block p.block hp (by intro e; injection e with e; exact hR e))
theorem But.below {R B : Nat} {w w' : World} (h : But R w w') (hB : B ≤ R) (hs : B ≤ w.heap.size) : Below B w w' :=
  ⟨h.os, h.tape, h.output, h.size, fun k hk => h.block k (by omega) (by intro e; injection e with e; omega)⟩
theorem But.set (R o : Nat) (w : World) (v : Value) : But R w (w.setCell ⟨R, o, none⟩ v) :=
  ⟨rfl, rfl, rfl, by simp [World.setCell], fun k hk hne => Below.heap_setCell _ _ _ _ (by intro e; exact hne (by rw [e]))⟩
theorem But.box {R : Nat} {w w' : World} (h : But R w w') (o : Obj) : But R w (w'.alloc o) := h.then (But.of (below_box _ _))

/-- A block of cells, whole. -/
def Box (w : World) (k : Nat) (vs : List Value) : Prop := ∃ T, w.heap[k]? = some (.cells vs.toArray T (0, 0))
theorem Box.lt {w : World} {k : Nat} {vs : List Value} (h : Box w k vs) : k < w.heap.size := by
  obtain ⟨T, h⟩ := h
  rcases Nat.lt_or_ge k w.heap.size with h1 | h1
  · exact h1
  · rw [Array.getElem?_eq_none h1] at h; simp at h
theorem Box.cell {w : World} {k : Nat} {vs : List Value} (h : Box w k vs) (i : Nat) {v : Value} (hv : vs[i]? = some v) : w.cell? ⟨k, i, none⟩ = some v := by
  obtain ⟨T, h⟩ := h
  simp [World.cell?, h, hv]
theorem Box.fz {w : World} {k : Nat} {vs : List Value} (h : Box w k vs) (i : Nat) : w.frozen? ⟨k, i, none⟩ = false := by
  obtain ⟨T, h⟩ := h
  simp [World.frozen?, h]
theorem Box.block {w w' : World} {k : Nat} {vs : List Value} (h : Box w k vs) (hb : w'.heap[k]? = w.heap[k]?) : Box w' k vs := by
  obtain ⟨T, h⟩ := h
  exact ⟨T, hb.trans h⟩
theorem Box.below {w w' : World} {k : Nat} {vs : List Value} (h : Box w k vs) (hb : Below w.heap.size w w') : Box w' k vs := h.block (hb.block k h.lt)
theorem Box.but {R : Nat} {w w' : World} {k : Nat} {vs : List Value} (h : Box w k vs) (hb : But R w w') (hk : k ≠ R) : Box w' k vs := h.block (hb.block k h.lt (by intro e; injection e with e; exact hk e))
theorem Box.new (w : World) (vs : List Value) (T : TypeId) (k : Nat) (hk : k = w.heap.size) : Box (w.alloc (.cells vs.toArray T)) k vs := by
  subst hk
  exact ⟨T, by show (w.heap.push _)[w.heap.size]? = _; simp⟩
theorem Box.set {w : World} {k : Nat} {vs : List Value} (h : Box w k vs) (i : Nat) (v : Value) : Box (w.setCell ⟨k, i, none⟩ v) k (vs.set i v) := by
  obtain ⟨T, h⟩ := h
  exact ⟨T, by simp [World.setCell, Array.getElem?_modify, h]⟩
theorem Box.other {w : World} {k k' : Nat} {vs : List Value} (h : Box w k vs) (i : Nat) (v : Value) (hk : k ≠ k') : Box (w.setCell ⟨k', i, none⟩ v) k vs := h.block (Below.heap_setCell _ _ _ _ hk)
/-- Tokens lie there, one by one. -/
def ToksAt (w : World) (b o : Nat) (ts : List Tk) : Prop :=
  ∀ (j : Nat) (h : j < ts.length), w.cell? ⟨b, o + j * 3, none⟩ = some (.int .i64 ts[j].1) ∧ w.cell? ⟨b, o + j * 3 + 1, none⟩ = some (.string (ba ts[j].2.1)) ∧ w.cell? ⟨b, o + j * 3 + 2, none⟩ = some (.int .i64 ts[j].2.2)
theorem ToksAt.but {R : Nat} {w w' : World} {b o : Nat} {ts : List Tk} (h : ToksAt w b o ts) (hb : But R w w') (hl : b < w.heap.size) (hR : b ≠ R) : ToksAt w' b o ts :=
  fun j hj => ⟨(hb.cell (p := ⟨b, o + j * 3, none⟩) hl hR).trans (h j hj).1, (hb.cell (p := ⟨b, o + j * 3 + 1, none⟩) hl hR).trans (h j hj).2.1, (hb.cell (p := ⟨b, o + j * 3 + 2, none⟩) hl hR).trans (h j hj).2.2⟩
/-- Tokens, the last one an end, none of them great. -/
structure GoodT (ts : List Tk) : Prop where
  last : ∃ l e, ts = l ++ [e] ∧ e.1 = 4 ∧ e.2.1 = []
  small : ∀ t ∈ ts, t.1 ≤ 4 ∧ t.2.1.length ≤ 1000000 ∧ t.2.2 ≤ 1000000 ∧ (t.1 = 2 → 2 ≤ t.2.1.length) ∧ (t.1 = 1 → (t.2.1.head?.map (·.toNat)) ≠ some 45)
  len : ts.length ≤ 1000
theorem GoodT.ne {ts : List Tk} (h : GoodT ts) : ∃ t r, ts = t :: r := by
  obtain ⟨l, e, rfl, -⟩ := h.last
  cases l with
  | nil => exact ⟨_, _, rfl⟩
  | cons a l => exact ⟨_, _, rfl⟩
theorem GoodT.tail {t : Tk} {r : List Tk} (h : GoodT (t :: r)) (hn : t.1 ≠ 4 ∨ t.2.1 ≠ []) : GoodT r := by
  obtain ⟨l, e, hl, h4, h0⟩ := h.last
  cases l with
  | nil =>
    simp at hl
    obtain ⟨rfl, rfl⟩ := hl
    rcases hn with hn | hn
    · exact absurd h4 hn
    · exact absurd h0 hn
  | cons a l =>
    simp at hl
    refine ⟨⟨l, e, hl.2, h4, h0⟩, fun x hx => h.small x (by simp [hx]), ?_⟩
    have := h.len
    simp at this
    omega
/-- The reader at a block has these tokens left. -/
structure RD (w : World) (R : Nat) (ts : List Tk) : Prop where
  cell : ∃ b o c, w.cell? ⟨R, 0, none⟩ = some (.slice (some ⟨b, o, none⟩) ts.length c) ∧ ts.length ≤ c ∧ b < R ∧ ToksAt w b o ts
  lt : R < w.heap.size
  fz : w.frozen? ⟨R, 0, none⟩ = false
  good : GoodT ts
  env : FEnv w
  out : ∀ g, g ∈ flowVars → g < R
theorem RD.below {w w' : World} {R : Nat} {ts : List Tk} (h : RD w R ts) (hb : Below w.heap.size w w') : RD w' R ts := by
  obtain ⟨b, o, c, hc, hl, hR, ht⟩ := h.cell
  have hlt := h.lt
  exact ⟨⟨b, o, c, (hb.cell (p := ⟨R, 0, none⟩) h.lt).trans hc, hl, hR, ht.but (R := R) (But.of hb) (by omega) (by omega)⟩, Nat.lt_of_lt_of_le h.lt hb.size, (hb.frozen (p := ⟨R, 0, none⟩) h.lt).trans h.fz, h.good, h.env.blocks hb.size (fun g hg => hb.block g (h.env.size g hg)), h.out⟩
theorem RD.set {w : World} {R k i : Nat} {v : Value} {ts : List Tk} (h : RD w R ts) (hk : R < k) : RD (w.setCell ⟨k, i, none⟩ v) R ts := by
  obtain ⟨b, o, c, hc, hl, hR, ht⟩ := h.cell
  have hlt := h.lt
  have hB := But.set k i w v
  exact ⟨⟨b, o, c, (hB.cell (p := ⟨R, 0, none⟩) hlt (by show R ≠ k; omega)).trans hc, hl, hR, ht.but hB (by omega) (by omega)⟩, by simp [World.setCell]; omega, by rw [World.frozen?_setCell]; exact h.fz, h.good, h.env.blocks hB.size (fun g hg => hB.block g (h.env.size g hg) (by intro e; injection e with e; have := h.out g hg; omega)), h.out⟩
theorem But.put {R k i : Nat} {w w' : World} (h : But R w w') (hk : w.heap.size ≤ k) (v : Value) : But R w (w'.setCell ⟨k, i, none⟩ v) :=
  ⟨h.os, h.tape, h.output, by have := h.size; simp [World.setCell]; omega, fun j hj hne => (Below.heap_setCell _ _ _ _ (by show j ≠ k; omega)).trans (h.block j hj hne)⟩
/-- What was thrown. -/
def Thr (e : Ending) (w' : World) (B : Nat) (er : Int × Nat) : Prop :=
  ∃ b, e = .panicked [{ v := .iface 70 (.pointer (some ⟨b, 0, none⟩)), recovered := false }] ∧ w'.cell? ⟨b, 0, none⟩ = some (.int .i64 er.1) ∧ w'.cell? ⟨b, 1, none⟩ = some (.int .i64 er.2) ∧ B ≤ b ∧ b < w'.heap.size
/-- What comes of reading. -/
def Rs {α : Type} (r : PE α) (enc : α → Value → World → Prop) (e : Ending) (B : Nat) (w' : World) (R : Nat) : Prop :=
  (∃ a ts' v, r = .ok (a, ts') ∧ e = .returned v ∧ enc a v w' ∧ RD w' R ts') ∨ (∃ er, r = .error er ∧ Thr e w' B er)

theorem wrong_any (c at' : Int) (w : World) : Calls Tryz.prog 36 #[.int .i64 c, .int .i64 at'] w fun e w' => e = .returned (.pointer (some ⟨w.heap.size, 0, none⟩)) ∧ w' = w.alloc (.cells #[.int .i64 c, .int .i64 at'] 103) := by
  go_enter Tryz.func36, Tryz.ntmps36
  go_wp2
  go_ret
  exact ⟨rfl, rfl⟩
/-- The reader's own cells, at hand. -/
theorem RD.head {w : World} {R : Nat} {ts : List Tk} (h : RD w R ts) : ∃ (b o c : Nat) (n : Nat), w.cell? ⟨R, 0, none⟩ = some (.slice (some ⟨b, o, none⟩) (n + 1) c) ∧ n + 1 = ts.length ∧ n + 1 ≤ c ∧ b < w.heap.size ∧ b < R ∧ n ≤ 1000 ∧ w.cell? ⟨b, o, none⟩ = some (.int .i64 (kindT ts)) ∧ w.cell? ⟨b, o + 1, none⟩ = some (.string (ba (textT ts))) ∧ w.cell? ⟨b, o + 2, none⟩ = some (.int .i64 (hereT ts)) := by
  obtain ⟨b, o, c, hc, hl, hR, ht⟩ := h.cell
  have hb : b < w.heap.size := by have := h.lt; omega
  obtain ⟨t, r, rfl⟩ := h.good.ne
  have h0 := ht 0 (by simp)
  have hn := h.good.len
  simp only [List.length_cons] at hc hl hn
  refine ⟨b, o, c, r.length, hc, rfl, hl, hb, hR, by omega, ?_, ?_, ?_⟩
  · simpa [kindT] using h0.1
  · simpa [textT] using h0.2.1
  · simpa [hereT] using h0.2.2
set_option maxHeartbeats 400000 in
theorem rwrong_any (c : Int) (R : Nat) (ts : List Tk) (w : World) (h : RD w R ts) : Calls Tryz.prog 41 #[.pointer (some ⟨R, 0, none⟩), .int .i64 c] w fun e w' => e = .returned (.pointer (some ⟨w.heap.size, 0, none⟩)) ∧ w' = w.alloc (.cells #[.int .i64 c, .int .i64 (hereT ts)] 103) := by
  obtain ⟨b, o, cc, n, hc, hn, hcc, hb, hR, hn1, k0, k1, k2⟩ := h.head
  have hlt := h.lt
  go_enter Tryz.func41, Tryz.ntmps41
  go_wp2_with (go_at_call 36; refine (wrong_any _ _ _).mono ?_; rintro e w' ⟨rfl, rfl⟩)
  go_ret
  exact ⟨rfl, rfl⟩
set_option maxHeartbeats 400000 in
theorem is_any (x : By) (R : Nat) (ts : List Tk) (w : World) (h : RD w R ts) : Calls Tryz.prog 54 #[.pointer (some ⟨R, 0, none⟩), .string (ba x)] w fun e w' => e = .returned (.bool (textT ts == x)) ∧ w' = w := by
  obtain ⟨b, o, cc, n, hc, hn, hcc, hb, hR, hn1, k0, k1, k2⟩ := h.head
  have hlt := h.lt
  go_enter Tryz.func54, Tryz.ntmps54
  go_wp2
  go_ret
  exact ⟨rfl, rfl⟩
theorem ToksAt.tail {w : World} {b o : Nat} {t : Tk} {r : List Tk} (h : ToksAt w b o (t :: r)) : ToksAt w b (o + 3) r := by
  intro j hj
  have := h (j + 1) (by simp; omega)
  rw [show o + (j + 1) * 3 = o + 3 + j * 3 by omega] at this
  simpa using this
theorem RD.taken {w : World} {R b o c : Nat} {ts : List Tk} (h : RD w R ts) (hn : kindT ts ≠ 4 ∨ textT ts ≠ []) (hc : w.cell? ⟨R, 0, none⟩ = some (.slice (some ⟨b, o, none⟩) ts.length c)) :
    RD (w.setCell ⟨R, 0, none⟩ (.slice (some ⟨b, o + 3, none⟩) ts.tail.length (c - 1))) R ts.tail := by
  obtain ⟨b', o', c', hc', hl, hR, ht⟩ := h.cell
  have hlt := h.lt
  rw [hc] at hc'
  simp only [Option.some.injEq, Value.slice.injEq, Addr.mk.injEq, true_and, and_true] at hc'
  obtain ⟨⟨rfl, rfl⟩, rfl⟩ := hc'
  obtain ⟨t, r, rfl⟩ := h.good.ne
  simp only [List.tail_cons, List.length_cons] at hl ⊢
  have hB := But.set R 0 w (.slice (some ⟨b, o + 3, none⟩) r.length (c - 1))
  have hsz : (w.setCell ⟨R, 0, none⟩ (.slice (some ⟨b, o + 3, none⟩) r.length (c - 1))).heap.size = w.heap.size := by simp [World.setCell]
  refine ⟨⟨b, o + 3, c - 1, ?_, by omega, hR, (ht.tail).but hB (by omega) (by omega)⟩, by rw [hsz]; exact h.lt, ?_, h.good.tail hn, h.env.blocks hB.size (fun g hg => hB.block g (h.env.size g hg) (by intro e; injection e with e; have := h.out g hg; omega)), h.out⟩
  · exact World.cell?_setCell_same _ _ _ hc
  · rw [World.frozen?_setCell]; exact h.fz
set_option maxHeartbeats 400000 in
theorem take_any (R : Nat) (ts : List Tk) (w : World) (h : RD w R ts) (hn : kindT ts ≠ 4 ∨ textT ts ≠ []) : Calls Tryz.prog 78 #[.pointer (some ⟨R, 0, none⟩)] w fun e w' => e = .returned (.tuple #[]) ∧ RD w' R ts.tail ∧ But R w w' := by
  obtain ⟨b, o, cc, n, hc, hn', hcc, hb, hR, hn1, k0, k1, k2⟩ := h.head
  have HT := Hid.mk (h.taken hn (by rw [← hn']; exact hc))
  have hlt := h.lt
  have hfz := h.fz
  have hnt : ts.tail.length = n := by rw [List.length_tail]; omega
  rw [hnt] at HT
  have hc1 : ¬ cc = 1 := by
    obtain ⟨t, r, hr⟩ := HT.out.good.ne
    rw [hr] at hnt
    simp at hnt
    omega
  clear hn' hnt
  go_enter Tryz.func78, Tryz.ntmps78
  go_wp2
  go_end0
  exact ⟨rfl, HT.out, But.set _ _ _ _⟩
set_option maxHeartbeats 400000 in
theorem may_any (x : By) (R : Nat) (ts : List Tk) (w : World) (h : RD w R ts) (hx : x ≠ []) : Calls Tryz.prog 58 #[.pointer (some ⟨R, 0, none⟩), .string (ba x)] w fun e w' => e = .returned (.bool (textT ts == x)) ∧ RD w' R (if textT ts = x then ts.tail else ts) ∧ But R w w' := by
  have H := Hid.mk h
  have HT := Hid.mk (fun (hn : kindT ts ≠ 4 ∨ textT ts ≠ []) => take_any R ts w h hn)
  have HI := Hid.mk (is_any x R ts w h)
  clear h
  by_cases he : textT ts = x
  · have hb : (textT ts == x) = true := by simp [he]
    rw [hb] at HI ⊢
    rw [if_pos he]
    have HT := Hid.mk (HT.out (Or.inr (by rw [he]; exact hx)))
    clear hb he
    go_enter Tryz.func58, Tryz.ntmps58
    go_wp2_with (first | (go_at_call 54; refine HI.out.mono ?_; rintro e w' ⟨rfl, rfl⟩) | (go_at_call 78; refine HT.out.mono ?_; rintro e w' ⟨rfl, h1, h2⟩))
    go_ret
    exact ⟨rfl, h1, h2⟩
  · have hb : (textT ts == x) = false := by simp [he]
    rw [hb] at HI ⊢
    rw [if_neg he]
    clear hb he
    go_enter Tryz.func58, Tryz.ntmps58
    go_wp2_with (first | (go_at_call 54; refine HI.out.mono ?_; rintro e w' ⟨rfl, rfl⟩))
    go_ret
    exact ⟨rfl, H.out, But.refl _ _⟩
theorem bel_then {w w2 w3 : World} (h1 : Below w.heap.size w w2) (h2 : Below w2.heap.size w2 w3) : Below w.heap.size w w3 := h1.trans (h2.mono h1.size)
theorem bel_box {w w2 : World} (h1 : Below w.heap.size w w2) (o : Obj) : Below w.heap.size w (w2.alloc o) := h1.alloc h1.size o
theorem grown_below {w w' : World} (h : Below w.heap.size w w') (row : Option Nat) : w.grownBy w' row := ⟨h.os, h.tape, h.output, h.size, fun k hk _ => h.block k hk⟩
theorem thr_at (w : World) (c : Int) (ts : List Tk) {B b : Nat} (hB : B ≤ w.heap.size) (hb : b = w.heap.size) : Thr (.panicked [{ v := .iface 70 (.pointer (some ⟨b, 0, none⟩)), recovered := false }]) (w.alloc (.cells #[.int .i64 c, .int .i64 (hereT ts)] 103)) B (c, hereT ts) := by
  subst hb
  exact ⟨w.heap.size, rfl, by simp, by simp, hB, by simp⟩
theorem thr_new (w : World) (c : Int) (ts : List Tk) {B : Nat} (hB : B ≤ w.heap.size) : Thr (.panicked [{ v := .iface 70 (.pointer (some ⟨w.heap.size, 0, none⟩)), recovered := false }]) (w.alloc (.cells #[.int .i64 c, .int .i64 (hereT ts)] 103)) B (c, hereT ts) :=
  ⟨w.heap.size, rfl, by simp, by simp, hB, by simp⟩
set_option maxHeartbeats 400000 in
theorem must_any (x : By) (R : Nat) (ts : List Tk) (w : World) (h : RD w R ts) (hx : x ≠ []) : Calls Tryz.prog 55 #[.pointer (some ⟨R, 0, none⟩), .string (ba x)] w fun e w' => Rs (mustP x ts) (fun a v _ => v = .int .i64 (a : Nat)) e w.heap.size w' R ∧ But R w w' := by
  obtain ⟨b, o, cc, n, hc, hn', hcc, hb, hR, hn1, k0, k1, k2⟩ := h.head
  have hlt := h.lt
  have H := Hid.mk h
  have HM := Hid.mk (may_any x R ts w h hx)
  clear h hn'
  by_cases he : textT ts = x
  · have HP := Hid.mk (show mustP x ts = .ok (hereT ts, ts.tail) by rw [mustP, if_pos he])
    have hb' : (textT ts == x) = true := by simp [he]
    rw [hb', if_pos he] at HM
    clear hb' he
    go_enter Tryz.func55, Tryz.ntmps55
    go_wp2_with (first | (go_at_call 58; refine HM.out.mono ?_; rintro e w' ⟨rfl, h1, h2⟩))
    go_ret
    exact ⟨Or.inl ⟨_, _, _, HP.out, rfl, rfl, h1⟩, h2⟩
  · have HP := Hid.mk (show mustP x ts = .error (3, hereT ts) by rw [mustP, if_neg he]; rfl)
    have hb' : (textT ts == x) = false := by simp [he]
    rw [hb', if_neg he] at HM
    clear hb' he
    go_enter Tryz.func55, Tryz.ntmps55
    go_wp2_with (first | (go_at_call 58; refine HM.out.mono ?_; rintro e w' ⟨rfl, h1, h2⟩) | (go_at_call 41; refine (rwrong_any _ _ _ _ h1).mono ?_; rintro e w'' ⟨rfl, rfl⟩))
    exact ⟨rfl, Or.inr ⟨_, HP.out, thr_new _ _ _ h2.size⟩, h2.box _⟩
set_option maxHeartbeats 400000 in
theorem need_any (k : Nat) (R : Nat) (ts : List Tk) (w : World) (h : RD w R ts) : Calls Tryz.prog 77 #[.pointer (some ⟨R, 0, none⟩), .int .i64 k] w fun e w' => ((kindT ts = k ∧ e = .returned (.agg #[.int .i64 (kindT ts), .string (ba (textT ts)), .int .i64 (hereT ts)])) ∨ (kindT ts ≠ k ∧ Thr e w' w.heap.size (3, hereT ts))) ∧ Below w.heap.size w w' := by
  obtain ⟨b, o, cc, n, hc, hn', hcc, hb, hR, hn1, k0, k1, k2⟩ := h.head
  have hlt := h.lt
  have H := Hid.mk h
  have HW := Hid.mk (fun W (hb : Below w.heap.size w W) => rwrong_any 3 R ts W (h.below hb))
  clear h hn'
  by_cases he : kindT ts = k
  · have HE := Hid.mk he
    have hez : ((kindT ts : Int) != (k : Int)) = false := by simp [he]
    clear he
    go_enter Tryz.func77, Tryz.ntmps77
    go_wp2
    refine bodyPost_ret (v := .agg #[.int .i64 (kindT ts), .string (ba (textT ts)), .int .i64 (hereT ts)]) (by simp [results, Tryz.results77, go_sem]) rfl ?_
    exact ⟨Or.inl ⟨HE.out, rfl⟩, below_box _ _⟩
  · have HE := Hid.mk he
    have hez : ((kindT ts : Int) != (k : Int)) = true := by simp; omega
    clear he
    go_enter Tryz.func77, Tryz.ntmps77
    go_wp2_with (go_at_call 41; refine (HW.out _ (below_box _ _)).mono ?_; rintro e w'' ⟨rfl, rfl⟩)
    exact ⟨rfl, Or.inr ⟨HE.out, thr_at _ _ _ (by simp) (by simp)⟩, bel_box (below_box _ _) _⟩
end Go.Proofs.YtedflhiflomoeaaGreatDoor
