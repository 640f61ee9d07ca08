import Derived.Test.YtedflhiflomoeaaGreatDoorProg
import Derived.WalkKit
import Derived.WalkSpells
import Derived.WalkLawsBesides
import Derived.Deep.QuietTactic
import Derived.BigQuiet
import Derived.Deep.RegionWith
import Derived.Deep.DeepFit
import Derived.Deep.MidRow
import Derived.Deep.AppendLies
import Derived.Deep.LoopGhost
import Derived.Deep.Cut
import Derived.Deep.DeepCutAuto
import Derived.Deep.RegionLaw
import Derived.Deep.RegionHeld3
import Derived.Lib.QuietBelow
import Derived.Lib.LazyBuf
import Derived.Laws.ResultCell
import Derived.LaidEql
import Derived.RowKitTokens
import Derived.Stop.Asserts
import Derived.Test.YtedflhiflomoeaaGreatDoorFlwP
set_option linter.unusedSimpArgs false
set_option linter.unusedVariables false
namespace Go.Proofs.YtedflhiflomoeaaGreatDoor.Dk
open Go.RowKit

/-- Bytes, and what they are as cells. -/
abbrev Bs := List UInt8
def bc (l : Bs) : List Value := l.map fun x => Value.int .u8 (x.toNat : Int)
theorem bc_len (l : Bs) : (bc l).length = l.length := by simp [bc]
theorem bc_app (a b : Bs) : bc (a ++ b) = bc a ++ bc b := by simp [bc]
theorem bc_one (l : Bs) : ∀ v ∈ bc l, v.oneCell' = true := by
  intro v hv
  obtain ⟨x, _, rfl⟩ := List.mem_map.1 hv
  rfl
/-- A disk: what is sure, what is not, the fuse. -/
structure St where
  sure : List Bs
  ws : List (Nat × Bs)
  fuse : Int
def zeros : Bs := List.replicate 64 0
def pad (l : Bs) : Bs := l ++ List.replicate (64 - l.length) 0
theorem pad_len (l : Bs) (h : l.length ≤ 64) : (pad l).length = 64 := by simp [pad]; omega
def newD (n : Nat) : St := ⟨List.replicate n zeros, [], -1⟩
structure St.Ok (d : St) : Prop where
  lo : 8 ≤ d.sure.length
  hi : d.sure.length ≤ 16384
  s64 : ∀ s ∈ d.sure, s.length = 64
  wok : ∀ x ∈ d.ws, x.1 < d.sure.length ∧ x.2.length = 64
  few : d.ws.length ≤ 1000000
  f0 : -9223372036854775808 ≤ d.fuse
  f1 : d.fuse ≤ 9223372036854775807
def St.burnt (d : St) : St := ⟨d.sure, d.ws, if 0 < d.fuse then d.fuse - 1 else d.fuse⟩
def St.live (d : St) : Bool := d.fuse != 0
def St.wrote (d : St) (k : Nat) (l : Bs) : St := ⟨d.sure, d.ws ++ [(k, pad l)], d.fuse⟩
/-- Those that are kept, one by one, from place i on. -/
def settleL (kept : Nat → Bool) : Nat → List Bs → List (Nat × Bs) → List Bs
  | _, s, [] => s
  | i, s, x :: r => settleL kept (i + 1) (if kept i then s.set x.1 x.2 else s) r
def St.settled (d : St) (kept : Nat → Bool) : St := ⟨settleL kept 0 d.sure d.ws, [], d.fuse⟩
/-- What was written to a sector last. -/
def lastL (k : Nat) : List (Nat × Bs) → Option Bs
  | [] => none
  | x :: r => (lastL k r).or (if x.1 = k then some x.2 else none)
def St.read (d : St) (k : Nat) : Bs := (lastL k d.ws).getD (d.sure[k]?.getD [])

theorem settle_snoc (kept : Nat → Bool) : ∀ (r : List (Nat × Bs)) (i : Nat) (s : List Bs) (x : Nat × Bs), settleL kept i s (r ++ [x]) = (if kept (i + r.length) then (settleL kept i s r).set x.1 x.2 else settleL kept i s r)
  | [], i, s, x => by simp [settleL]
  | y :: r, i, s, x => by
    simp only [List.cons_append, settleL, List.length_cons]
    rw [settle_snoc kept r (i + 1) _ x, show i + 1 + r.length = i + (r.length + 1) by omega]
theorem settle_len (kept : Nat → Bool) : ∀ (r : List (Nat × Bs)) (i : Nat) (s : List Bs), (settleL kept i s r).length = s.length
  | [], i, s => rfl
  | y :: r, i, s => by rw [settleL, settle_len kept r]; split <;> simp
theorem settle_64 (kept : Nat → Bool) : ∀ (r : List (Nat × Bs)) (i : Nat) (s : List Bs), (∀ x ∈ r, x.2.length = 64) → (∀ x ∈ s, x.length = 64) → ∀ x ∈ settleL kept i s r, x.length = 64
  | [], i, s, _, hs => hs
  | y :: r, i, s, hr, hs => by
    rw [settleL]
    refine settle_64 kept r _ _ (fun x hx => hr x (by simp [hx])) ?_
    split
    · intro x hx
      rcases List.mem_or_eq_of_mem_set hx with h | h
      · exact hs x h
      · rw [h]; exact hr y (by simp)
    · exact hs
theorem ok_new (n : Nat) (h8 : 8 ≤ n) (hn : n ≤ 16384) : (newD n).Ok := by
  refine ⟨by simpa [newD] using h8, by simpa [newD] using hn, fun s hs => ?_, fun x hx => by simp [newD] at hx, by simp [newD], by simp [newD], by simp [newD]⟩
  have := List.eq_of_mem_replicate hs
  rw [this]; simp [zeros]
theorem ok_burnt {d : St} (h : d.Ok) : d.burnt.Ok := by
  obtain ⟨a, b, c, e, f, g, i⟩ := h
  refine ⟨a, b, c, e, f, ?_, ?_⟩ <;> simp only [St.burnt] <;> split <;> omega
theorem ok_wrote {d : St} (h : d.Ok) (k : Nat) (l : Bs) (hk : k < d.sure.length) (hl : l.length ≤ 64) (hf : d.ws.length < 1000000) : (d.wrote k l).Ok := by
  obtain ⟨a, b, c, e, f, g, i⟩ := h
  refine ⟨a, b, c, fun x hx => ?_, by simp [St.wrote]; omega, g, i⟩
  simp only [St.wrote, List.mem_append, List.mem_singleton] at hx
  rcases hx with hx | rfl
  · exact e x hx
  · exact ⟨hk, pad_len l hl⟩
theorem ok_settled {d : St} (h : d.Ok) (kept : Nat → Bool) : (d.settled kept).Ok := by
  obtain ⟨a, b, c, e, f, g, i⟩ := h
  refine ⟨by simpa [St.settled, settle_len] using a, by simpa [St.settled, settle_len] using b, ?_, fun x hx => by simp [St.settled] at hx, by simp [St.settled], g, i⟩
  exact settle_64 kept _ _ _ (fun x hx => (e x hx).2) c
theorem ok_fuse {d : St} (h : d.Ok) (n : Int) (h0 : -9223372036854775808 ≤ n) (h1 : n ≤ 9223372036854775807) : (⟨d.sure, d.ws, n⟩ : St).Ok := ⟨h.lo, h.hi, h.s64, h.wok, h.few, h0, h1⟩

/-- Sectors, writes, as cells. -/
def flat (l : List Bs) : List Value := l.flatMap bc
def wcell (x : Nat × Bs) : List Value := .int .i64 (x.1 : Int) :: bc x.2
def flatW (l : List (Nat × Bs)) : List Value := l.flatMap wcell
theorem flat_len : ∀ (l : List Bs), (∀ s ∈ l, s.length = 64) → (flat l).length = l.length * 64
  | [], _ => rfl
  | a :: r, h => by
    have e : flat (a :: r) = bc a ++ flat r := rfl
    rw [e, List.length_append, bc_len, h a (by simp), flat_len r (fun s hs => h s (by simp [hs])), List.length_cons]; omega
theorem flatW_len : ∀ (l : List (Nat × Bs)), (∀ x ∈ l, x.2.length = 64) → (flatW l).length = l.length * 65
  | [], _ => rfl
  | a :: r, h => by
    have e : flatW (a :: r) = wcell a ++ flatW r := rfl
    rw [e, List.length_append, flatW_len r (fun s hs => h s (by simp [hs])), List.length_cons, wcell, List.length_cons, bc_len, h a (by simp)]; omega
theorem flatW_app (a b : List (Nat × Bs)) : flatW (a ++ b) = flatW a ++ flatW b := by simp [flatW]
theorem flat_at : ∀ (l : List Bs) (k j : Nat) (v : Value), (∀ s ∈ l, s.length = 64) → k < l.length → (bc (l[k]?.getD []))[j]? = some v → (flat l)[k * 64 + j]? = some v
  | [], k, j, v, _, hk, _ => by simp at hk
  | a :: r, 0, j, v, h, _, hv => by
    have e : flat (a :: r) = bc a ++ flat r := rfl
    simp at hv
    rw [e, Nat.zero_mul, Nat.zero_add, List.getElem?_append_left ?_]
    · exact hv
    · exact (List.getElem?_eq_some_iff.1 hv).1
  | a :: r, k + 1, j, v, h, hk, hv => by
    have e : flat (a :: r) = bc a ++ flat r := rfl
    simp only [List.getElem?_cons_succ] at hv
    rw [e, List.getElem?_append_right (by rw [bc_len, h a (by simp)]; omega), bc_len, h a (by simp), show (k + 1) * 64 + j - 64 = k * 64 + j by omega]
    exact flat_at r k j v (fun s hs => h s (by simp [hs])) (by simpa using hk) hv
theorem flatW_at : ∀ (l : List (Nat × Bs)) (k j : Nat) (v : Value) (h : k < l.length), (∀ x ∈ l, x.2.length = 64) → (wcell l[k])[j]? = some v → (flatW l)[k * 65 + j]? = some v
  | [], k, j, v, hk, _, _ => by simp at hk
  | a :: r, 0, j, v, _, h, hv => by
    have e : flatW (a :: r) = wcell a ++ flatW r := rfl
    simp at hv
    rw [e, Nat.zero_mul, Nat.zero_add, List.getElem?_append_left ?_]
    · exact hv
    · exact (List.getElem?_eq_some_iff.1 hv).1
  | a :: r, k + 1, j, v, hk, h, hv => by
    have e : flatW (a :: r) = wcell a ++ flatW r := rfl
    have ea : (wcell a).length = 65 := by rw [wcell, List.length_cons, bc_len, h a (by simp)]
    simp only [List.getElem_cons_succ] at hv
    rw [e, List.getElem?_append_right (by rw [ea]; omega), ea, show (k + 1) * 65 + j - 65 = k * 65 + j by omega]
    exact flatW_at r k j v (by simpa using hk) (fun s hs => h s (by simp [hs])) hv
theorem flat_one (l : List Bs) : ∀ v ∈ flat l, v.oneCell' = true := by
  intro v hv
  obtain ⟨s, _, hs⟩ := List.mem_flatMap.1 hv
  exact bc_one s v hs
theorem wcell_one (x : Nat × Bs) : ∀ v ∈ wcell x, v.oneCell' = true := by
  intro v hv
  rw [wcell, List.mem_cons] at hv
  rcases hv with rfl | hv
  · rfl
  · exact bc_one _ v hv

/-- All is as it was, but some blocks. -/
structure Keep (X : List Nat) (w w' : World) : Prop where
  os : w'.os = w.os
  tape : w'.tape = w.tape
  output : w'.output = w.output
  size : w.heap.size ≤ w'.heap.size
  block : ∀ k, k < w.heap.size → k ∉ X → w'.heap[k]? = w.heap[k]?
theorem Keep.refl (X : List Nat) (w : World) : Keep X w w := ⟨rfl, rfl, rfl, Nat.le_refl _, fun _ _ _ => rfl⟩
theorem Keep.of {X : List Nat} {w w' : World} (h : Below w.heap.size w w') : Keep X w w' := ⟨h.os, h.tape, h.output, h.size, fun k hk _ => h.block k hk⟩
theorem Keep.then {X Y : List Nat} {a b c : World} (h : Keep X a b) (k : Keep Y b c) (hY : ∀ y ∈ Y, y ∈ X ∨ a.heap.size ≤ y) : Keep X a c :=
  ⟨k.os.trans h.os, k.tape.trans h.tape, k.output.trans h.output, Nat.le_trans h.size k.size, fun i hi hne => (k.block i (Nat.lt_of_lt_of_le hi h.size) (fun hy => (hY i hy).elim hne (fun q => by omega))).trans (h.block i hi hne)⟩
theorem Keep.sub {X Y : List Nat} {a b : World} (h : Keep X a b) (hX : ∀ x ∈ X, x ∈ Y ∨ a.heap.size ≤ x) : Keep Y a b :=
  ⟨h.os, h.tape, h.output, h.size, fun i hi hne => h.block i hi (fun hx => (hX i hx).elim hne (fun q => by omega))⟩
theorem Keep.below {X : List Nat} {B : Nat} {w w' : World} (h : Keep X w w') (hX : ∀ x ∈ X, B ≤ x) (hs : B ≤ w.heap.size) : Below B w w' :=
  ⟨h.os, h.tape, h.output, h.size, fun k hk => h.block k (by omega) (fun hx => by have := hX k hx; omega)⟩
theorem Keep.drew {X : List Nat} {w w' : World} (h : Keep X w w') : Keep X w w'.drew := ⟨h.os, h.tape, h.output, h.size, h.block⟩
theorem Keep.set {X : List Nat} {w w' : World} (h : Keep X w w') (R o : Nat) (v : Value) (hR : R ∈ X ∨ w.heap.size ≤ R) : Keep X w (w'.setCell ⟨R, o, none⟩ v) :=
  ⟨h.os, h.tape, h.output, by have := h.size; simp [World.setCell]; omega, fun k hk hne => (Below.heap_setCell _ _ _ _ (by rintro rfl; exact hR.elim hne (fun q => by omega))).trans (h.block k hk hne)⟩
theorem Keep.sets {X : List Nat} {R : Nat} : ∀ (vs : List Value) (o : Nat) {w w' : World}, Keep X w w' → (R ∈ X ∨ w.heap.size ≤ R) → Keep X w (w'.setCells R o vs)
  | [], _, _, _, h, _ => h
  | v :: r, o, w, w', h, hR => by rw [World.setCells]; exact Keep.sets r (o + 1) (h.set R o v hR) hR
theorem Keep.alloc {X : List Nat} {w w' : World} (h : Keep X w w') (o : Obj) : Keep X w (w'.alloc o) :=
  ⟨h.os, h.tape, h.output, by have := h.size; simp; omega, fun k hk hne => (Below.heap_alloc _ _ _ (by have := h.size; omega)).trans (h.block k hk hne)⟩
theorem Keep.grown {X : List Nat} {w w' w'' : World} {row : Option Nat} (h : Keep X w w') (hg : w'.grownBy w'' row) (hX : ∀ r, row = some r → r ∈ X ∨ w.heap.size ≤ r) : Keep X w w'' :=
  ⟨hg.os.trans h.os, hg.tape.trans h.tape, hg.output.trans h.output, Nat.le_trans h.size hg.size, fun k hk hne => (hg.block k (Nat.lt_of_lt_of_le hk h.size) (fun e => (hX k e.symm).elim hne (fun q => by omega))).trans (h.block k hk hne)⟩

/-- A block of cells, whole. -/
def Blk (w : World) (k : Nat) (vs : List Value) : Prop := ∃ T, w.heap[k]? = some (.cells vs.toArray T (0, 0))
theorem Blk.lt {w : World} {k : Nat} {vs : List Value} (h : Blk w k vs) : k < w.heap.size := by
  obtain ⟨T, h⟩ := h
  rcases Nat.lt_or_ge k w.heap.size with h1 | h1
  · exact h1
  · rw [Array.getElem?_eq_none h1] at h; simp at h
theorem Blk.cell {w : World} {k : Nat} {vs : List Value} (h : Blk w k vs) (i : Nat) {v : Value} (hv : vs[i]? = some v) : w.cell? ⟨k, i, none⟩ = some v := by
  obtain ⟨T, h⟩ := h
  simp [World.cell?, h, hv]
theorem Blk.fz {w : World} {k : Nat} {vs : List Value} (h : Blk w k vs) (i : Nat) : w.frozen? ⟨k, i, none⟩ = false := by
  obtain ⟨T, h⟩ := h
  simp [World.frozen?, h]
theorem Blk.range {w : World} {k o : Nat} {vs us : List Value} (h : Blk w k vs) (hu : ∀ j v, us[j]? = some v → vs[o + j]? = some v) : w.rangeAt k o us := fun j v hv => h.cell _ (hu j v hv)
theorem Blk.there {w : World} {k o n : Nat} {vs : List Value} (h : Blk w k vs) (hn : o + n ≤ vs.length) : w.there k o n := fun j hj => by
  rw [h.cell (o + j) (List.getElem?_eq_getElem (by omega)), h.fz]; exact ⟨rfl, rfl⟩
theorem Blk.block {w w' : World} {k : Nat} {vs : List Value} (h : Blk w k vs) (hb : w'.heap[k]? = w.heap[k]?) : Blk w' k vs := by
  obtain ⟨T, h⟩ := h
  exact ⟨T, hb.trans h⟩
theorem Blk.below {w w' : World} {k : Nat} {vs : List Value} (h : Blk w k vs) (hb : Below w.heap.size w w') : Blk w' k vs := h.block (hb.block k h.lt)
theorem Blk.keep {X : List Nat} {w w' : World} {k : Nat} {vs : List Value} (h : Blk w k vs) (hb : Keep X w w') (hk : k ∉ X) : Blk w' k vs := h.block (hb.block k h.lt hk)
theorem Blk.grown {w w' : World} {row : Option Nat} {k : Nat} {vs : List Value} (h : Blk w k vs) (hb : w.grownBy w' row) (hk : some k ≠ row) : Blk w' k vs := h.block (hb.block k h.lt hk)
theorem Blk.new (w : World) (vs : List Value) (T : TypeId) (k : Nat) (hk : k = w.heap.size) : Blk (w.alloc (.cells vs.toArray T)) k vs := by
  subst hk
  exact ⟨T, by show (w.heap.push _)[w.heap.size]? = _; simp⟩
theorem Blk.alloc {w : World} {k : Nat} {vs : List Value} (h : Blk w k vs) (o : Obj) : Blk (w.alloc o) k vs := h.block (Below.heap_alloc _ _ _ h.lt)
theorem Blk.set {w : World} {k : Nat} {vs : List Value} (h : Blk w k vs) (i : Nat) (v : Value) : Blk (w.setCell ⟨k, i, none⟩ v) k (vs.set i v) := by
  obtain ⟨T, h⟩ := h
  exact ⟨T, by simp [World.setCell, Array.getElem?_modify, h]⟩
theorem Blk.other {w : World} {k k' : Nat} {vs : List Value} (h : Blk w k vs) (i : Nat) (v : Value) (hk : k ≠ k') : Blk (w.setCell ⟨k', i, none⟩ v) k vs := h.block (Below.heap_setCell _ _ _ _ hk)
theorem Blk.others {w : World} {k k' : Nat} {vs : List Value} (us : List Value) (o : Nat) (h : Blk w k vs) (hk : k ≠ k') : Blk (w.setCells k' o us) k vs :=
  h.keep (Keep.sets (X := [k']) us o (Keep.refl _ w) (Or.inl (by simp))) (by simpa using hk)
/-- Cells laid over others, from a place on. -/
def overL (vs : List Value) : Nat → List Value → List Value
  | _, [] => vs
  | o, u :: r => overL (vs.set o u) (o + 1) r
theorem Blk.sets {k : Nat} : ∀ (us : List Value) (o : Nat) {w : World} {vs : List Value}, Blk w k vs → Blk (w.setCells k o us) k (overL vs o us)
  | [], _, _, _, h => h
  | u :: r, o, w, vs, h => by rw [World.setCells, overL]; exact Blk.sets r (o + 1) (h.set o u)
theorem over_len : ∀ (us : List Value) (o : Nat) (vs : List Value), (overL vs o us).length = vs.length
  | [], _, _ => rfl
  | u :: r, o, vs => by rw [overL, over_len]; simp
theorem over_app : ∀ (us : List Value) (a b : List Value), us.length ≤ b.length → overL (a ++ b) a.length us = a ++ us ++ b.drop us.length
  | [], a, b, _ => by simp [overL]
  | u :: r, a, b, h => by
    cases b with
    | nil => simp at h
    | cons c b =>
      rw [overL, List.set_append_right _ _ (Nat.le_refl _), Nat.sub_self, List.set_cons_zero]
      have := over_app r (a ++ [u]) b (by simpa using h)
      rw [List.length_append, List.length_singleton, List.append_assoc] at this
      simpa using this

/-- The blocks of a disk. -/
def blocks (D S : Nat) (vw : Value) : List Nat := D :: S :: vw.ownBlock.toList
theorem own_lt {w : World} {base : Nat} {e : TypeId} {size : Nat} {v : Value} {n : Nat} {xs : List Value} (h : w.ownsRow base e size v n xs) {g : Nat} (hg : v.ownBlock = some g) : g < w.heap.size := by
  obtain ⟨-, ⟨rfl, -⟩ | ⟨g', cap, cur, rfl, hB, hh, -⟩⟩ := h
  · simp [Value.ownBlock] at hg
  · simp [Value.ownBlock] at hg
    subst hg
    rcases Nat.lt_or_ge g' w.heap.size with q | q
    · exact q
    · rw [Array.getElem?_eq_none q] at hh; simp at hh
theorem own_form {w : World} {B : Nat} {e : TypeId} {z : Nat} {v : Value} {n : Nat} {xs : List Value} (h : w.ownsRow B e z v n xs) : ∃ a c, v = .slice a n c ∧ n ≤ c := by
  obtain ⟨-, ⟨rfl, hn⟩ | ⟨g, cp, cur, rfl, -, -, hc, -⟩⟩ := h
  · exact ⟨none, 0, by rw [hn], by omega⟩
  · exact ⟨_, _, rfl, hc⟩
theorem own_other {w : World} {base : Nat} {e : TypeId} {size : Nat} {v : Value} {n : Nat} {xs : List Value} (h : w.ownsRow base e size v n xs) (R o : Nat) (x : Value) (hR : v.ownBlock ≠ some R) : (w.setCell ⟨R, o, none⟩ x).ownsRow base e size v n xs := by
  obtain ⟨h1, h2⟩ := h
  refine ⟨h1, ?_⟩
  rcases h2 with h2 | ⟨g, cap, cur, rfl, hB, hh, hr⟩
  · exact Or.inl h2
  · exact Or.inr ⟨g, cap, cur, rfl, hB, (Below.heap_setCell _ _ _ _ (by rintro rfl; exact hR rfl)).trans hh, hr⟩
theorem hid {p : Prop} (h : p) : Hid p := h
theorem ret_bool {a b : Bool} (h : a = b) : Ending.returned (.bool a) = .returned (.bool b) := by rw [h]

theorem burnt_not {d : St} (hf : ¬ 0 < d.fuse) : d.burnt = d := by
  unfold St.burnt
  rw [if_neg hf]
end Go.Proofs.YtedflhiflomoeaaGreatDoor.Dk

namespace Go.Proofs.YtedflhiflomoeaaGreatDoor.Dk
open Go.RowKit

/-- A list in memory. -/
def Lst (w : World) (v : Value) (xs : List Value) : Prop := ∃ a c, v = .slice a xs.length c ∧ (xs = [] ∨ ∃ b o, a = some ⟨b, o, none⟩ ∧ b < w.heap.size ∧ w.rangeAt b o xs)
theorem Lst.mv {w w' : World} {v : Value} {xs : List Value} (h : Lst w v xs) (hs : w.heap.size ≤ w'.heap.size) (hb : ∀ k, v.ownBlock = some k → w'.heap[k]? = w.heap[k]?) : Lst w' v xs := by
  obtain ⟨a, c, rfl, h⟩ := h
  refine ⟨a, c, rfl, ?_⟩
  rcases h with h | ⟨b, o, rfl, hl, hr⟩
  · exact Or.inl h
  · exact Or.inr ⟨b, o, rfl, Nat.lt_of_lt_of_le hl hs, fun j v hv => (World.cell?_of_block (w := w) (hb b rfl)).trans (hr j v hv)⟩
theorem Lst.below {w w' : World} {v : Value} {xs : List Value} (h : Lst w v xs) (hb : Below w.heap.size w w') : Lst w' v xs := by
  obtain ⟨a, c, rfl, h⟩ := h
  refine ⟨a, c, rfl, ?_⟩
  rcases h with h | ⟨b, o, rfl, hl, hr⟩
  · exact Or.inl h
  · exact Or.inr ⟨b, o, rfl, Nat.lt_of_lt_of_le hl hb.size, fun j v hv => (hb.cell (p := ⟨b, o + j, none⟩) hl).trans (hr j v hv)⟩
theorem Lst.keep {X : List Nat} {w w' : World} {v : Value} {xs : List Value} (h : Lst w v xs) (hb : Keep X w w') (hX : ∀ k ∈ X, v.ownBlock ≠ some k ∨ w.heap.size ≤ k) : Lst w' v xs := by
  obtain ⟨a, c, rfl, h⟩ := h
  refine ⟨a, c, rfl, ?_⟩
  rcases h with h | ⟨b, o, rfl, hl, hr⟩
  · exact Or.inl h
  · exact Or.inr ⟨b, o, rfl, Nat.lt_of_lt_of_le hl hb.size, fun j v hv => (World.cell?_of_block (w := w) (a := ⟨b, o + j, none⟩) (hb.block b hl (fun q => by rcases hX b q with q | q; exact q rfl; omega))).trans (hr j v hv)⟩
theorem Lst.keep2 {X : List Nat} {w w' : World} {v : Value} {xs : List Value} (h : Lst w v xs) (hb : Keep X w w') (hX : xs = [] ∨ ∀ k ∈ X, v.ownBlock ≠ some k) : Lst w' v xs := by
  rcases hX with hX | hX
  · obtain ⟨a, c, e, -⟩ := h
    exact ⟨a, c, e, Or.inl hX⟩
  · exact h.keep hb (fun k hk => Or.inl (hX k hk))
theorem Lst.at {w : World} {a : Option Addr} {n c : Nat} {xs : List Value} (h : Lst w (.slice a n c) xs) (hn : 0 < n) : n = xs.length ∧ ∃ b o, a = some ⟨b, o, none⟩ ∧ b < w.heap.size ∧ w.rangeAt b o xs := by
  obtain ⟨a', c', e, h⟩ := h
  injection e with e1 e2 e3
  subst e1 e2 e3
  rcases h with rfl | h
  · simp at hn
  · exact ⟨rfl, h⟩
def bl (l : List Bool) : List Value := l.map Value.bool
/-- What a power cut keeps. -/
def keptL (l : List Bool) (i : Nat) : Bool := l[i]?.getD false
theorem own_range {w : World} {g cap n : Nat} {ws : List (Nat × Bs)} {e : TypeId} (h : w.ownsRow 0 e 65 (.slice (some ⟨g, 0, none⟩) n cap) n (flatW ws)) (hw : ∀ x ∈ ws, x.2.length = 64) (k : Nat) (hk : k < ws.length) : w.rangeAt g (k * 65) (wcell ws[k]) := by
  obtain ⟨-, ⟨h1, -⟩ | ⟨g', cap', cur, e, hB, hh, hn, hm, hs, ht⟩⟩ := h
  · cases h1
  injection e with e1 e2 e3
  injection e1 with e1
  injection e1 with e1
  subst e1
  intro j v hv
  have hx := flatW_at ws k j v hk hw hv
  rw [← ht, List.getElem?_take] at hx
  split at hx
  · simp only [World.cell?, hh]
    simpa using hx
  · cases hx
theorem wcell_len {x : Nat × Bs} (h : x.2.length = 64) : (wcell x).length = 65 := by rw [wcell, List.length_cons, bc_len, h]
theorem own_keep {X : List Nat} {w w' : World} {base : Nat} {e : TypeId} {size : Nat} {v : Value} {n : Nat} {xs : List Value} (h : w.ownsRow base e size v n xs) (hk : Keep X w w') (hX : ∀ g, v.ownBlock = some g → g ∉ X) : w'.ownsRow base e size v n xs := by
  have hl := fun g => own_lt (g := g) h
  obtain ⟨h1, h2⟩ := h
  refine ⟨h1, ?_⟩
  rcases h2 with h2 | ⟨g, cap, cur, rfl, hB, hh, hr⟩
  · exact Or.inl h2
  · exact Or.inr ⟨g, cap, cur, rfl, hB, (hk.block g (hl g rfl) (hX g rfl)).trans hh, hr⟩
theorem over_all (vs us : List Value) (h : vs.length = us.length) : overL vs 0 us = us := by
  have := over_app us [] vs (by omega)
  simp only [List.nil_append, List.length_nil] at this
  rw [this, List.drop_eq_nil_of_le (by omega)]
  simp
def allK : Nat → Bool := fun _ => true
theorem over_behind : ∀ (us a b : List Value) (o : Nat), overL (a ++ b) (a.length + o) us = a ++ overL b o us
  | [], _, _, _ => rfl
  | u :: r, a, b, o => by
    rw [overL, overL, List.set_append_right _ _ (by omega), show a.length + o - a.length = o by omega]
    exact over_behind r a (b.set o u) (o + 1)
theorem flat_set : ∀ (l : List Bs) (k : Nat) (t : Bs), (∀ s ∈ l, s.length = 64) → t.length = 64 → k < l.length → overL (flat l) (k * 64) (bc t) = flat (l.set k t)
  | [], k, t, _, _, hk => by simp at hk
  | a :: r, 0, t, h, ht, _ => by
    have e : flat (a :: r) = bc a ++ flat r := rfl
    have e2 : flat ((a :: r).set 0 t) = bc t ++ flat r := rfl
    have := over_app (bc t) [] (bc a ++ flat r) (by rw [List.length_append, bc_len, bc_len, h a (by simp), ht]; omega)
    rw [e, e2, Nat.zero_mul]
    simp only [List.nil_append, List.length_nil] at this
    rw [this, List.drop_append, bc_len, bc_len, h a (by simp), ht, List.drop_eq_nil_of_le (by rw [bc_len, h a (by simp)]; omega)]
    simp
  | a :: r, k + 1, t, h, ht, hk => by
    have e : flat (a :: r) = bc a ++ flat r := rfl
    have e2 : flat ((a :: r).set (k + 1) t) = bc a ++ flat (r.set k t) := rfl
    have ih := flat_set r k t (fun s hs => h s (by simp [hs])) ht (by simpa using hk)
    have ea : (bc a).length = 64 := by rw [bc_len, h a (by simp)]
    rw [e, e2, ← ih, show (k + 1) * 64 = (bc a).length + k * 64 by rw [ea]; omega]
    exact over_behind (bc t) (bc a) (flat r) (k * 64)


theorem settle_one (kept : Nat → Bool) (sure : List Bs) (ws : List (Nat × Bs)) (k : Nat) (hk : k < ws.length) : settleL kept 0 sure (ws.take (k + 1)) = (if kept k then (settleL kept 0 sure (ws.take k)).set ws[k].1 ws[k].2 else settleL kept 0 sure (ws.take k)) := by
  rw [List.take_succ_eq_append_getElem hk, settle_snoc, List.length_take, Nat.min_eq_left (by omega), Nat.zero_add]
theorem blocks_none (D S : Nat) : blocks D S (.slice none 0 0) = [D, S] := rfl
/-- Sync. -/
theorem live_burnt {d : St} : d.burnt.sure = d.sure ∧ d.burnt.ws = d.ws := ⟨rfl, rfl⟩
end Go.Proofs.YtedflhiflomoeaaGreatDoor.Dk

namespace Go.Proofs.YtedflhiflomoeaaGreatDoor.Dk
open Go.RowKit Go.Extern.Stop Go.Stop Go.Extern

/-- The variables' number. -/
theorem gsize : Tryz.prog.globals.size = 13 := by kernel_rfl
theorem valueOfP (t : Addr) (w : World) : (ReflectliteValue.unpack (.iface 116 (.pointer (some t)))).run Tryz.prog w
    = .ok (.agg #[.pointer (some ⟨13, 116, none⟩), .pointer (some ⟨w.heap.size, 0, none⟩), .int .u64 150]) (w.alloc (.cells #[.pointer (some t)] 116)) := by kernel_rfl
theorem typeP (a : Addr) (w : World) : (ReflectliteValue.methodAny (ReflectliteValue.valueError "reflectlite.Value.Type" 0) (fun t _ _ _ => ReflectliteType.toType t) #[.agg #[.pointer (some ⟨13, 116, none⟩), .pointer (some a), .int .u64 150]]).run Tryz.prog w
    = .ok (.iface 167 (.agg #[.pointer (some ⟨13, 116, none⟩)])) w := by kernel_rfl
theorem kindP (w : World) : ((ReflectliteType.abiMethod fun t => (fun a : Nat => Value.int IntKind.u8 (a : Int)) <$> Rtype.kind t) #[.pointer (some ⟨13, 116, none⟩)]).run Tryz.prog w = .ok (.int .u8 22) w := by kernel_rfl
theorem kindE (w : World) : ((ReflectliteType.abiMethod fun t => (fun a : Nat => Value.int IntKind.u8 (a : Int)) <$> Rtype.kind t) #[.pointer (some ⟨13, 32, none⟩)]).run Tryz.prog w = .ok (.int .u8 2) w := by kernel_rfl
theorem rlm (z : Sem Value) (f : TypeId → Addr → Nat → Nat → Sem Value) (v : Value) :
    ReflectliteValue.method z f #[v] = (do match ← ReflectliteValue.parts v with | none => z | some (t, a, fl) => f t a fl (fl % 32)) := rfl
theorem partsP (a : Addr) (w : World) : (ReflectliteValue.parts (.agg #[.pointer (some ⟨13, 116, none⟩), .pointer (some a), .int .u64 150])).run Tryz.prog w = .ok (some (116, a, 150)) w := by kernel_rfl
theorem isNilP (a p : Addr) (W : World) (ha : W.cell? a = some (.pointer (some p))) :
    (ReflectliteValue.method (ReflectliteValue.valueError "reflectlite.Value.IsNil" 0) ReflectliteValue.isNil #[.agg #[.pointer (some ⟨13, 116, none⟩), .pointer (some a), .int .u64 150]]).run Tryz.prog W = .ok (.bool false) W := by
  rw [rlm]
  simp only [Sem.run_bind, partsP, Result.andThen]
  simp [ReflectliteValue.isNil, loadVar, isAgg, underlying, Tryz.underlying116, ha, Result.andThen]
theorem elemT (w : World) : (ReflectliteType.method ReflectliteType.elem #[.agg #[.pointer (some ⟨13, 116, none⟩)]]).run Tryz.prog w = .ok (.iface 167 (.agg #[.pointer (some ⟨13, 32, none⟩)])) w := by kernel_rfl
theorem implE (w : World) : (ReflectliteType.relation "Implements" ReflectliteType.implements_ #[.agg #[.pointer (some ⟨13, 32, none⟩)], .iface 167 (.agg #[.pointer (some ⟨13, 38, none⟩)])]).run Tryz.prog w = .ok (.bool true) w := by kernel_rfl
theorem typeOfE (v : Value) (w : World) : (ReflectliteType.typeOf #[.iface 32 v]).run Tryz.prog w = .ok (.iface 167 (.agg #[.pointer (some ⟨13, 32, none⟩)])) w := by kernel_rfl
theorem assignE (w : World) : (ReflectliteType.relation "AssignableTo" ReflectliteType.assignableTo #[.agg #[.pointer (some ⟨13, 32, none⟩)], .iface 167 (.agg #[.pointer (some ⟨13, 32, none⟩)])]).run Tryz.prog w = .ok (.bool true) w := by kernel_rfl
theorem valueOfE (n : Int) (w : World) : (ReflectliteValue.unpack (.iface 32 (.int .i64 n))).run Tryz.prog w
    = .ok (.agg #[.pointer (some ⟨13, 32, none⟩), .pointer (some ⟨w.heap.size, 0, none⟩), .int .u64 130]) (w.alloc (.cells #[.int .i64 n] 32)) := by kernel_rfl
theorem elemOfP (w : World) : (Rtype.elem? 116).run Tryz.prog w = .ok (some 32) w := by kernel_rfl
theorem mkE (p : Addr) (w : World) : (ReflectliteValue.mk 32 p ReflectliteValue.flagAddr).run Tryz.prog w = .ok (.agg #[.pointer (some ⟨13, 32, none⟩), .pointer (some p), .int .u64 386]) w := by kernel_rfl
theorem elemV (a p : Addr) (W : World) (ha : W.cell? a = some (.pointer (some p))) :
    (ReflectliteValue.method (ReflectliteValue.valueError "reflectlite.Value.Elem" 0) ReflectliteValue.elem #[.agg #[.pointer (some ⟨13, 116, none⟩), .pointer (some a), .int .u64 150]]).run Tryz.prog W
      = .ok (.agg #[.pointer (some ⟨13, 32, none⟩), .pointer (some p), .int .u64 386]) W := by
  rw [rlm]
  simp only [Sem.run_bind, partsP, Result.andThen]
  simp [ReflectliteValue.elem, loadVar, isAgg, underlying, Tryz.underlying116, ha, Result.andThen, elemOfP, mkE]
end Go.Proofs.YtedflhiflomoeaaGreatDoor.Dk

namespace Go.Proofs.YtedflhiflomoeaaGreatDoor.Dk
open Go.RowKit Go.Extern.Stop Go.Stop Go.Extern

theorem methKind (h : Value) (w : World) : (Go.method 332 167 (.agg #[h]) "Kind").run Tryz.prog w = .ok (149, h) w := by kernel_rfl
theorem methElem (h : Value) (w : World) : (Go.method 332 167 (.agg #[h]) "Elem").run Tryz.prog w = .ok (164, .agg #[h]) w := by kernel_rfl
theorem methImpl (h : Value) (w : World) : (Go.method 332 167 (.agg #[h]) "Implements").run Tryz.prog w = .ok (165, .agg #[h]) w := by kernel_rfl
theorem methAssign (h : Value) (w : World) : (Go.method 332 167 (.agg #[h]) "AssignableTo").run Tryz.prog w = .ok (162, .agg #[h]) w := by kernel_rfl
/-- The entry for Set, laid open (as the guide's worked example has it). -/
theorem rls (v x : Value) : ReflectliteValue.set #[v, x] = (do
    let (some (dst, a, fl), some (src, b, _)) := (← ReflectliteValue.parts v, ← ReflectliteValue.parts x)
      | unsupported (.noEntry "extern/(internal/reflectlite.Value).Set.zeroValue")
    if fl / ReflectliteValue.flagAddr % 2 == 0 then unsupported (.noEntry "extern/(internal/reflectlite.Value).Set.unaddressable")
    let val ← loadVar src b
    if ← Rtype.directlyAssignable dst src then storeVar dst a val
    else if ← Rtype.implements dst src then
      if (← Rtype.kind src) == 20 then
        match val with
        | .nilIface => unsupported (.noEntry "extern/reflectlite: a nil value of one interface type handed on as a value of another")
        | _ => storeVar dst a val
      else storeVar dst a (.iface src val)
    else panicString ("reflectlite.Set: value of type " ++ (← Rtype.spelt src) ++ " is not assignable to type " ++ (← Rtype.spelt dst))
    pure (.tuple #[])) := rfl
theorem partsA (a : Addr) (w : World) : (ReflectliteValue.parts (.agg #[.pointer (some ⟨13, 32, none⟩), .pointer (some a), .int .u64 386])).run Tryz.prog w = .ok (some (32, a, 386)) w := by kernel_rfl
theorem partsE (a : Addr) (w : World) : (ReflectliteValue.parts (.agg #[.pointer (some ⟨13, 32, none⟩), .pointer (some a), .int .u64 130])).run Tryz.prog w = .ok (some (32, a, 130)) w := by kernel_rfl
theorem directE (w : World) : (Rtype.directlyAssignable 32 32).run Tryz.prog w = .ok true w := by kernel_rfl
theorem sizeE (w : World) : (sizeOf 32).run Tryz.prog w = .ok 1 w := by kernel_rfl
theorem setE (ta b : Addr) (n : Int) (old : Value) (W : World) (hb : W.cell? b = some (.int .i64 n)) (ht : W.cell? ta = some old) (hf : W.frozen? ta = false) :
    (ReflectliteValue.set #[.agg #[.pointer (some ⟨13, 32, none⟩), .pointer (some ta), .int .u64 386], .agg #[.pointer (some ⟨13, 32, none⟩), .pointer (some b), .int .u64 130]]).run Tryz.prog W
      = .ok (.tuple #[]) (W.setCell ta (.int .i64 n)) := by
  rw [rls]
  simp only [Sem.run_bind, partsA, partsE, Result.andThen]
  simp [ReflectliteValue.flagAddr, loadVar, isAgg, underlying, Tryz.underlying32, hb, Result.andThen, directE, storeVar, Value.cells, storeCells, Addr.add]
  rw [run_store Tryz.prog W ta _ _ (by rfl)]
  simp [ht, hf]
set_option maxRecDepth 100000 in
set_option maxHeartbeats 4000000 in
theorem as_low (n : Int) (t q : Addr) (old : Value) (w : World) (hq : w.cell? q = some (.pointer (some t))) (ht0 : w.cell? t = some old) (hf0 : w.frozen? t = false) :
    Calls Tryz.prog 85 #[.iface 32 (.int .i64 n), .iface 116 (.pointer (some t)), .agg #[.pointer (some ⟨13, 116, none⟩), .pointer (some q), .int .u64 150], .iface 167 (.agg #[.pointer (some ⟨13, 32, none⟩)])] w fun ev w' => ev = .returned (.bool true) ∧ w' = ((w.alloc (.cells #[.pointer (some ⟨13, 116, none⟩), .pointer (some q), .int .u64 150] 134)).alloc (.cells #[.int .i64 n] 32)).setCell t (.int .i64 n) := by
  have h1 := @run_callFunc_extern Tryz.prog 82 _ (fun args => ReflectliteValue.unpack (args.getD 0 (.tuple #[]))) Tryz.func82 (by kernel_rfl) (by kernel_rfl) (by kernel_rfl) (by kernel_rfl)
  have h2 := @run_callFunc_extern Tryz.prog 105 _ ReflectliteType.typeOf Tryz.func105 (by kernel_rfl) (by kernel_rfl) (by kernel_rfl) (by kernel_rfl)
  have h3 := @run_callFunc_extern Tryz.prog 162 _ (ReflectliteType.relation "AssignableTo" ReflectliteType.assignableTo) Tryz.func162 (by kernel_rfl) (by kernel_rfl) (by kernel_rfl) (by kernel_rfl)
  have h4 := @run_callFunc_extern Tryz.prog 106 _ (ReflectliteValue.method (ReflectliteValue.valueError "reflectlite.Value.Elem" 0) ReflectliteValue.elem) Tryz.func106 (by kernel_rfl) (by kernel_rfl) (by kernel_rfl) (by kernel_rfl)
  have h5 := @run_callFunc_extern Tryz.prog 107 _ ReflectliteValue.set Tryz.func107 (by kernel_rfl) (by kernel_rfl) (by kernel_rfl) (by kernel_rfl)
  have tO := typeOfE
  have mA := methAssign
  have aE := assignE
  have vE := valueOfE
  have hlt : t.block < w.heap.size := World.block_lt_of_cell? w t ht0
  have hlq : q.block < w.heap.size := World.block_lt_of_cell? w q hq
  have el := elemV q t (w.alloc (.cells #[.pointer (some ⟨13, 116, none⟩), .pointer (some q), .int .u64 150] 134)) (by rw [World.cell?_alloc_lt _ _ q hlq]; exact hq)
  have st := setE t ⟨w.heap.size + 1, 0, none⟩ n old ((w.alloc (.cells #[.pointer (some ⟨13, 116, none⟩), .pointer (some q), .int .u64 150] 134)).alloc (.cells #[.int .i64 n] 32))
    (by rw [World.cell?_alloc_at _ _ _ _ (by simp)]; rfl)
    (by rw [World.cell?_alloc_lt _ _ t (by simp; omega), World.cell?_alloc_lt _ _ t hlt]; exact ht0)
    (by rw [World.frozen?_alloc_old _ _ t (by simp; omega), World.frozen?_alloc_old _ _ t (Nat.ne_of_lt hlt)]; exact hf0)
  go_enter Tryz.func85, Tryz.ntmps85
  go_wp2
  refine wp_loop_rounds 1 ?_
  rw [rounds_succ]
  go_wp2
  go_ret
  exact ⟨rfl, rfl⟩
set_option maxRecDepth 100000 in
set_option maxHeartbeats 4000000 in
theorem as_hit (n : Int) (t : Addr) (old : Value) (w : World) (hg : w.cell? ⟨4, 0, none⟩ = some (.iface 167 (.agg #[.pointer (some ⟨13, 38, none⟩)]))) (ht0 : w.cell? t = some old) (hf0 : w.frozen? t = false) :
    Calls Tryz.prog 62 #[.iface 32 (.int .i64 n), .iface 116 (.pointer (some t))] w fun ev w' => ev = .returned (.bool true) ∧ w'.cell? t = some (.int .i64 n) ∧ Keep [t.block] w w' := by
  have h1 := @run_callFunc_extern Tryz.prog 82 _ (fun args => ReflectliteValue.unpack (args.getD 0 (.tuple #[]))) Tryz.func82 (by kernel_rfl) (by kernel_rfl) (by kernel_rfl) (by kernel_rfl)
  have h2 := @run_callFunc_extern Tryz.prog 83 _ (ReflectliteValue.methodAny (ReflectliteValue.valueError "reflectlite.Value.Type" 0) (fun t _ _ _ => ReflectliteType.toType t)) Tryz.func83 (by kernel_rfl) (by kernel_rfl) (by kernel_rfl) (by kernel_rfl)
  have h3 := @run_callFunc_extern Tryz.prog 84 _ (ReflectliteValue.method (ReflectliteValue.valueError "reflectlite.Value.IsNil" 0) ReflectliteValue.isNil) Tryz.func84 (by kernel_rfl) (by kernel_rfl) (by kernel_rfl) (by kernel_rfl)
  have h4 := @run_callFunc_extern Tryz.prog 149 _ (ReflectliteType.abiMethod fun t => do pure (.int .u8 (← Rtype.kind t))) Tryz.func149 (by kernel_rfl) (by kernel_rfl) (by kernel_rfl) (by kernel_rfl)
  have h5 := @run_callFunc_extern Tryz.prog 164 _ (ReflectliteType.method ReflectliteType.elem) Tryz.func164 (by kernel_rfl) (by kernel_rfl) (by kernel_rfl) (by kernel_rfl)
  have h6 := @run_callFunc_extern Tryz.prog 165 _ (ReflectliteType.relation "Implements" ReflectliteType.implements_) Tryz.func165 (by kernel_rfl) (by kernel_rfl) (by kernel_rfl) (by kernel_rfl)
  have vP := valueOfP
  have tP := typeP
  have mK := methKind
  have mE := methElem
  have mI := methImpl
  have kP := kindP
  have kE := kindE
  have eT := elemT
  have iE := implE
  have hlt : t.block < w.heap.size := World.block_lt_of_cell? w t ht0
  have hl0 : 4 < w.heap.size := World.block_lt_of_cell? w ⟨4, 0, none⟩ hg
  have n8 := isNilP ⟨w.heap.size, 0, none⟩ t ((w.alloc (.cells #[.pointer (some t)] 116)).alloc (.cells #[.pointer (some ⟨13, 116, none⟩), .pointer (some ⟨w.heap.size, 0, none⟩), .int .u64 150] 134)) (by simp)
  have hg2 : ((w.alloc (.cells #[.pointer (some t)] 116)).alloc (.cells #[.pointer (some ⟨13, 116, none⟩), .pointer (some ⟨w.heap.size, 0, none⟩), .int .u64 150] 134)).cell? ⟨4, 0, none⟩ = some (.iface 167 (.agg #[.pointer (some ⟨13, 38, none⟩)])) := by
    rw [World.cell?_alloc_lt _ _ ⟨4, 0, none⟩ (by simp; omega), World.cell?_alloc_lt _ _ ⟨4, 0, none⟩ hl0]; exact hg
  have hL := as_low n t ⟨w.heap.size, 0, none⟩ old ((w.alloc (.cells #[.pointer (some t)] 116)).alloc (.cells #[.pointer (some ⟨13, 116, none⟩), .pointer (some ⟨w.heap.size, 0, none⟩), .int .u64 150] 134)) (by simp)
    (by rw [World.cell?_alloc_lt _ _ t (by simp; omega), World.cell?_alloc_lt _ _ t hlt]; exact ht0)
    (by rw [World.frozen?_alloc_old _ _ t (by simp; omega), World.frozen?_alloc_old _ _ t (Nat.ne_of_lt hlt)]; exact hf0)
  have HL := hid hL
  have HT0 := hid ht0
  clear hL
  go_enter Tryz.func62, Tryz.ntmps62
  go_wp2_with (first | (go_at_call 85; refine HL.out.mono ?_; rintro e w2 ⟨rfl, rfl⟩))
  go_ret
  refine ⟨rfl, ?_, ?_⟩
  · exact World.cell?_setCell_same _ _ _ (by rw [World.cell?_alloc_lt _ _ t (by simp; omega), World.cell?_alloc_lt _ _ t (by simp; omega), World.cell?_alloc_lt _ _ t (by simp; omega), World.cell?_alloc_lt _ _ t hlt]; exact HT0.out)
  · obtain ⟨tb, to_, ts⟩ := t
    obtain rfl : ts = none := by simpa using World.cell?_spot HT0.out
    exact (((((Keep.refl _ w).alloc _).alloc _).alloc _).alloc _).set _ _ _ (Or.inl (by simp))
set_option maxHeartbeats 800000 in
theorem tell_any (n : Int) (w : World) (hg : w.cell? ⟨4, 0, none⟩ = some (.iface 167 (.agg #[.pointer (some ⟨13, 38, none⟩)]))) :
    Calls Tryz.prog 42 #[.iface 32 (.int .i64 n)] w fun ev w' => ev = .returned (.int .i64 n) ∧ Below w.heap.size w w' := by
  have hl0 : 4 < w.heap.size := World.block_lt_of_cell? w ⟨4, 0, none⟩ hg
  have HA := hid (as_hit n ⟨w.heap.size, 0, none⟩ (.int .i64 0) (w.alloc (.cells #[.int .i64 0] 32)) (by rw [World.cell?_alloc_lt _ _ ⟨4, 0, none⟩ hl0]; exact hg) (by simp) (by simp))
  go_enter Tryz.func42, Tryz.ntmps42
  go_wp2_with (first | (go_at_call 62; refine HA.out.mono ?_; rintro e w2 ⟨rfl, c2, k2⟩))
  go_ret
  exact ⟨rfl, (((Keep.refl [] w).alloc _).then k2 (by simp)).below (by simp) (Nat.le_refl _)⟩
end Go.Proofs.YtedflhiflomoeaaGreatDoor.Dk

namespace Go.Proofs.YtedflhiflomoeaaGreatDoor.Dk
open Go.RowKit Go.Extern.Stop Go.Stop Go.Extern

theorem typeOfA (v : Value) (w : World) : (ReflectliteType.typeOf #[.iface 70 v]).run Tryz.prog w = .ok (.iface 167 (.agg #[.pointer (some ⟨13, 70, none⟩)])) w := by kernel_rfl
theorem assignA (w : World) : (ReflectliteType.relation "AssignableTo" ReflectliteType.assignableTo #[.agg #[.pointer (some ⟨13, 70, none⟩)], .iface 167 (.agg #[.pointer (some ⟨13, 32, none⟩)])]).run Tryz.prog w = .ok (.bool false) w := by kernel_rfl
theorem methUnwrap (v : Value) (w : World) : (Go.method 332 70 v "Unwrap").run Tryz.prog w = .ok (154, v) w := by kernel_rfl
set_option maxHeartbeats 400000 in
theorem unwrap_any (p : Nat) (n : Int) (w : World) (h : w.cell? ⟨p, 0, none⟩ = some (.int .i64 n)) : Calls Tryz.prog 154 #[.pointer (some ⟨p, 0, none⟩)] w fun e w' => e = .returned (.iface 32 (.int .i64 n)) ∧ w' = w := by
  go_enter Tryz.func154, Tryz.ntmps154
  go_wp2
  go_ret
  exact ⟨rfl, rfl⟩
set_option maxRecDepth 100000 in
set_option maxHeartbeats 4000000 in
theorem as_at (n : Int) (p : Nat) (t q : Addr) (old : Value) (w : World) (hp : w.cell? ⟨p, 0, none⟩ = some (.int .i64 n)) (hq : w.cell? q = some (.pointer (some t))) (ht0 : w.cell? t = some old) (hf0 : w.frozen? t = false) :
    Calls Tryz.prog 85 #[.iface 70 (.pointer (some ⟨p, 0, none⟩)), .iface 116 (.pointer (some t)), .agg #[.pointer (some ⟨13, 116, none⟩), .pointer (some q), .int .u64 150], .iface 167 (.agg #[.pointer (some ⟨13, 32, none⟩)])] w fun ev w' => ev = .returned (.bool true) ∧ w' = ((w.alloc (.cells #[.pointer (some ⟨13, 116, none⟩), .pointer (some q), .int .u64 150] 134)).alloc (.cells #[.int .i64 n] 32)).setCell t (.int .i64 n) := by
  have h1 := @run_callFunc_extern Tryz.prog 82 _ (fun args => ReflectliteValue.unpack (args.getD 0 (.tuple #[]))) Tryz.func82 (by kernel_rfl) (by kernel_rfl) (by kernel_rfl) (by kernel_rfl)
  have h2 := @run_callFunc_extern Tryz.prog 105 _ ReflectliteType.typeOf Tryz.func105 (by kernel_rfl) (by kernel_rfl) (by kernel_rfl) (by kernel_rfl)
  have h3 := @run_callFunc_extern Tryz.prog 162 _ (ReflectliteType.relation "AssignableTo" ReflectliteType.assignableTo) Tryz.func162 (by kernel_rfl) (by kernel_rfl) (by kernel_rfl) (by kernel_rfl)
  have h4 := @run_callFunc_extern Tryz.prog 106 _ (ReflectliteValue.method (ReflectliteValue.valueError "reflectlite.Value.Elem" 0) ReflectliteValue.elem) Tryz.func106 (by kernel_rfl) (by kernel_rfl) (by kernel_rfl) (by kernel_rfl)
  have h5 := @run_callFunc_extern Tryz.prog 107 _ ReflectliteValue.set Tryz.func107 (by kernel_rfl) (by kernel_rfl) (by kernel_rfl) (by kernel_rfl)
  have tO := typeOfE
  have mA := methAssign
  have aE := assignE
  have vE := valueOfE
  have hlt : t.block < w.heap.size := World.block_lt_of_cell? w t ht0
  have hlq : q.block < w.heap.size := World.block_lt_of_cell? w q hq
  have el := elemV q t (w.alloc (.cells #[.pointer (some ⟨13, 116, none⟩), .pointer (some q), .int .u64 150] 134)) (by rw [World.cell?_alloc_lt _ _ q hlq]; exact hq)
  have st := setE t ⟨w.heap.size + 1, 0, none⟩ n old ((w.alloc (.cells #[.pointer (some ⟨13, 116, none⟩), .pointer (some q), .int .u64 150] 134)).alloc (.cells #[.int .i64 n] 32))
    (by rw [World.cell?_alloc_at _ _ _ _ (by simp)]; rfl)
    (by rw [World.cell?_alloc_lt _ _ t (by simp; omega), World.cell?_alloc_lt _ _ t hlt]; exact ht0)
    (by rw [World.frozen?_alloc_old _ _ t (by simp; omega), World.frozen?_alloc_old _ _ t (Nat.ne_of_lt hlt)]; exact hf0)
  have tO2 := typeOfA
  have aE2 := assignA
  have mU := methUnwrap
  have hp1 : (w.alloc (.cells #[.pointer (some ⟨13, 116, none⟩), .pointer (some q), .int .u64 150] 134)).cell? ⟨p, 0, none⟩ = some (.int .i64 n) := by rw [World.cell?_alloc_lt _ _ ⟨p, 0, none⟩ (World.block_lt_of_cell? w ⟨p, 0, none⟩ hp)]; exact hp
  have HU := hid (unwrap_any p n _ hp1)
  have hta1 : ∀ (v : Value) (W : World), (Instr.typeAssert (.iface 70 v) 38 172 true).run Tryz.prog W = .ok (.tuple #[.nilIface, .bool false]) W := fun v W => run_typeAssert_lacksB Tryz.underlying172 (by kernel_rfl) (by kernel_rfl) v 38 W
  have hta2 : ∀ (v : Value) (W : World), (Instr.typeAssert (.iface 70 v) 38 104 true).run Tryz.prog W = .ok (.tuple #[.iface 70 v, .bool true]) W := fun v W => by kernel_rfl
  go_enter Tryz.func85, Tryz.ntmps85
  go_wp2
  refine wp_loop_rounds 2 ?_
  rw [rounds_succ]
  go_wp2_with (first | (go_at_call 154; refine HU.out.mono ?_; rintro e9 w9 ⟨rfl, rfl⟩))
  rw [rounds_succ]
  go_wp2
  go_ret
  exact ⟨rfl, rfl⟩
end Go.Proofs.YtedflhiflomoeaaGreatDoor.Dk

namespace Go.Proofs.YtedflhiflomoeaaGreatDoor.Dk
open Go.RowKit Go.Extern.Stop Go.Stop Go.Extern

set_option maxRecDepth 100000 in
set_option maxHeartbeats 4000000 in
theorem as_hitA (n : Int) (p : Nat) (t : Addr) (old : Value) (w : World) (hp : w.cell? ⟨p, 0, none⟩ = some (.int .i64 n)) (hg : w.cell? ⟨4, 0, none⟩ = some (.iface 167 (.agg #[.pointer (some ⟨13, 38, none⟩)]))) (ht0 : w.cell? t = some old) (hf0 : w.frozen? t = false) :
    Calls Tryz.prog 62 #[.iface 70 (.pointer (some ⟨p, 0, none⟩)), .iface 116 (.pointer (some t))] w fun ev w' => ev = .returned (.bool true) ∧ w'.cell? t = some (.int .i64 n) ∧ Keep [t.block] w w' := by
  have h1 := @run_callFunc_extern Tryz.prog 82 _ (fun args => ReflectliteValue.unpack (args.getD 0 (.tuple #[]))) Tryz.func82 (by kernel_rfl) (by kernel_rfl) (by kernel_rfl) (by kernel_rfl)
  have h2 := @run_callFunc_extern Tryz.prog 83 _ (ReflectliteValue.methodAny (ReflectliteValue.valueError "reflectlite.Value.Type" 0) (fun t _ _ _ => ReflectliteType.toType t)) Tryz.func83 (by kernel_rfl) (by kernel_rfl) (by kernel_rfl) (by kernel_rfl)
  have h3 := @run_callFunc_extern Tryz.prog 84 _ (ReflectliteValue.method (ReflectliteValue.valueError "reflectlite.Value.IsNil" 0) ReflectliteValue.isNil) Tryz.func84 (by kernel_rfl) (by kernel_rfl) (by kernel_rfl) (by kernel_rfl)
  have h4 := @run_callFunc_extern Tryz.prog 149 _ (ReflectliteType.abiMethod fun t => do pure (.int .u8 (← Rtype.kind t))) Tryz.func149 (by kernel_rfl) (by kernel_rfl) (by kernel_rfl) (by kernel_rfl)
  have h5 := @run_callFunc_extern Tryz.prog 164 _ (ReflectliteType.method ReflectliteType.elem) Tryz.func164 (by kernel_rfl) (by kernel_rfl) (by kernel_rfl) (by kernel_rfl)
  have h6 := @run_callFunc_extern Tryz.prog 165 _ (ReflectliteType.relation "Implements" ReflectliteType.implements_) Tryz.func165 (by kernel_rfl) (by kernel_rfl) (by kernel_rfl) (by kernel_rfl)
  have vP := valueOfP
  have tP := typeP
  have mK := methKind
  have mE := methElem
  have mI := methImpl
  have kP := kindP
  have kE := kindE
  have eT := elemT
  have iE := implE
  have hlt : t.block < w.heap.size := World.block_lt_of_cell? w t ht0
  have hl0 : 4 < w.heap.size := World.block_lt_of_cell? w ⟨4, 0, none⟩ hg
  have n8 := isNilP ⟨w.heap.size, 0, none⟩ t ((w.alloc (.cells #[.pointer (some t)] 116)).alloc (.cells #[.pointer (some ⟨13, 116, none⟩), .pointer (some ⟨w.heap.size, 0, none⟩), .int .u64 150] 134)) (by simp)
  have hg2 : ((w.alloc (.cells #[.pointer (some t)] 116)).alloc (.cells #[.pointer (some ⟨13, 116, none⟩), .pointer (some ⟨w.heap.size, 0, none⟩), .int .u64 150] 134)).cell? ⟨4, 0, none⟩ = some (.iface 167 (.agg #[.pointer (some ⟨13, 38, none⟩)])) := by
    rw [World.cell?_alloc_lt _ _ ⟨4, 0, none⟩ (by simp; omega), World.cell?_alloc_lt _ _ ⟨4, 0, none⟩ hl0]; exact hg
  have hlp : p < w.heap.size := World.block_lt_of_cell? w ⟨p, 0, none⟩ hp
  have hL := as_at n p t ⟨w.heap.size, 0, none⟩ old ((w.alloc (.cells #[.pointer (some t)] 116)).alloc (.cells #[.pointer (some ⟨13, 116, none⟩), .pointer (some ⟨w.heap.size, 0, none⟩), .int .u64 150] 134)) (by rw [World.cell?_alloc_lt _ _ ⟨p, 0, none⟩ (by simp; omega), World.cell?_alloc_lt _ _ ⟨p, 0, none⟩ hlp]; exact hp) (by simp)
    (by rw [World.cell?_alloc_lt _ _ t (by simp; omega), World.cell?_alloc_lt _ _ t hlt]; exact ht0)
    (by rw [World.frozen?_alloc_old _ _ t (by simp; omega), World.frozen?_alloc_old _ _ t (Nat.ne_of_lt hlt)]; exact hf0)
  have HL := hid hL
  have HT0 := hid ht0
  clear hL
  go_enter Tryz.func62, Tryz.ntmps62
  go_wp2_with (first | (go_at_call 85; refine HL.out.mono ?_; rintro e w2 ⟨rfl, rfl⟩))
  go_ret
  refine ⟨rfl, ?_, ?_⟩
  · exact World.cell?_setCell_same _ _ _ (by rw [World.cell?_alloc_lt _ _ t (by simp; omega), World.cell?_alloc_lt _ _ t (by simp; omega), World.cell?_alloc_lt _ _ t (by simp; omega), World.cell?_alloc_lt _ _ t hlt]; exact HT0.out)
  · obtain ⟨tb, to_, ts⟩ := t
    obtain rfl : ts = none := by simpa using World.cell?_spot HT0.out
    exact (((((Keep.refl _ w).alloc _).alloc _).alloc _).alloc _).set _ _ _ (Or.inl (by simp))
set_option maxHeartbeats 800000 in
theorem tellA_any (n : Int) (p : Nat) (w : World) (hp : w.cell? ⟨p, 0, none⟩ = some (.int .i64 n)) (hg : w.cell? ⟨4, 0, none⟩ = some (.iface 167 (.agg #[.pointer (some ⟨13, 38, none⟩)]))) :
    Calls Tryz.prog 42 #[.iface 70 (.pointer (some ⟨p, 0, none⟩))] w fun ev w' => ev = .returned (.int .i64 n) ∧ Below w.heap.size w w' := by
  have hl0 : 4 < w.heap.size := World.block_lt_of_cell? w ⟨4, 0, none⟩ hg
  have HA := hid (as_hitA n p ⟨w.heap.size, 0, none⟩ (.int .i64 0) (w.alloc (.cells #[.int .i64 0] 32)) (by rw [World.cell?_alloc_lt _ _ ⟨p, 0, none⟩ (World.block_lt_of_cell? w ⟨p, 0, none⟩ hp)]; exact hp) (by rw [World.cell?_alloc_lt _ _ ⟨4, 0, none⟩ hl0]; exact hg) (by simp) (by simp))
  go_enter Tryz.func42, Tryz.ntmps42
  go_wp2_with (first | (go_at_call 62; refine HA.out.mono ?_; rintro e w2 ⟨rfl, c2, k2⟩))
  go_ret
  exact ⟨rfl, (((Keep.refl [] w).alloc _).then k2 (by simp)).below (by simp) (Nat.le_refl _)⟩
end Go.Proofs.YtedflhiflomoeaaGreatDoor.Dk

namespace Go.Proofs.YtedflhiflomoeaaGreatDoor
open Go.RowKit

def ErrT (w : World) : Prop := w.cell? ⟨4, 0, none⟩ = some (.iface 167 (.agg #[.pointer (some ⟨13, 38, none⟩)]))
theorem ErrT.below {w w' : World} (h : ErrT w) (hb : Below w.heap.size w w') : ErrT w' := by
  unfold ErrT at h ⊢
  rw [hb.cell (p := ⟨4, 0, none⟩) (World.block_lt_of_cell? w ⟨4, 0, none⟩ h)]
  exact h
theorem eql_nilE (w : World) : (binOp BinOp.eql 38 .nilIface .nilIface).run Tryz.prog w = .ok (.bool true) w := by kernel_rfl
theorem neq_nilE (w : World) : (binOp BinOp.neq 38 .nilIface .nilIface).run Tryz.prog w = .ok (.bool false) w := by kernel_rfl
theorem neq_atE (a : Value) (w : World) : (binOp BinOp.neq 38 (.iface 70 a) .nilIface).run Tryz.prog w = .ok (.bool true) w := by kernel_rfl
theorem assert_atE (a : Option Addr) (w : World) : (Instr.typeAssert (.iface 70 (.pointer a)) 38 70 true).run Tryz.prog w = .ok (.tuple #[.pointer a, .bool true]) w := by kernel_rfl
theorem tell_nil (w : World) : Calls Tryz.prog 42 #[.nilIface] w fun e w' => e = .returned (.int .i64 0) ∧ w' = w := by
  have h1 := eql_nilE
  go_enter Tryz.func42, Tryz.ntmps42
  go_wp2
  go_ret
  exact ⟨rfl, rfl⟩
theorem place_nil (w : World) : Calls Tryz.prog 20 #[.nilIface] w fun e w' => e = .returned (.tuple #[.int .i64 0, .int .i64 (-1)]) ∧ w' = w := by
  have h1 := neq_nilE
  go_enter Tryz.func20, Tryz.ntmps20
  go_wp2_with (go_at_call 42; refine (tell_nil w).mono ?_; rintro e w1 ⟨rfl, hw⟩; obtain rfl : w = w1 := hw.symm)
  go_loopw [0] (fun v wr => v = .nilIface ∧ wr = w) (fun _ _ => 1)
  case atStart => exact ⟨rfl, rfl⟩
  case round =>
    obtain ⟨rfl, rfl⟩ := hrel
    go_wp2
    go_ret2
    exact ⟨rfl, rfl⟩
theorem place_at (c : Int) (p b : Nat) (w : World) (h0 : w.cell? ⟨b, 0, none⟩ = some (.int .i64 c)) (h1 : w.cell? ⟨b, 1, none⟩ = some (.int .i64 (p : Nat))) (hg : ErrT w) : Calls Tryz.prog 20 #[.iface 70 (.pointer (some ⟨b, 0, none⟩))] w fun e w' => e = .returned (.tuple #[.int .i64 c, .int .i64 (p : Nat)]) ∧ Below w.heap.size w w' := by
  have n1 := neq_atE (.pointer (some ⟨b, 0, none⟩))
  have n2 := assert_atE (some ⟨b, 0, none⟩)
  have hbl : b < w.heap.size := World.block_lt_of_cell? w ⟨b, 0, none⟩ h0
  have HT := Hid.mk (Dk.tellA_any c b w h0 hg)
  go_enter Tryz.func20, Tryz.ntmps20
  go_wp2_with (go_at_call 42; refine HT.out.mono ?_; rintro e w1 ⟨rfl, hb⟩; have HB := Hid.mk hb; have h2 := (hb.cell (p := ⟨b, 1, none⟩) hbl).trans h1; have hbl1 := Nat.lt_of_lt_of_le hbl hb.size; clear hb)
  go_loopw [0] (fun v wr => v = .iface 70 (.pointer (some ⟨b, 0, none⟩)) ∧ Aside (Below w.heap.size w wr) ∧ wr.cell? ⟨b, 1, none⟩ = some (.int .i64 (p : Nat)) ∧ b < wr.heap.size) (fun _ _ => 1)
  case atStart => exact ⟨rfl, HB.out, h2, hbl1⟩
  case round =>
    clear HB h2 hbl1
    obtain ⟨rfl, HB, h2, hbl1⟩ := hrel
    go_wp2_with fail
    go_quiet (fail)
    go_wp2_with fail
    go_ret2
    exact ⟨rfl, below_drewN HB.out _⟩
theorem is_nil (w : World) : Calls Tryz.prog 7 #[.nilIface, .agg #[.int .i64 0, .int .i64 (-1)]] w fun e w' => e = .returned (.bool true) ∧ Below w.heap.size w w' := by
  go_enter Tryz.func7, Tryz.ntmps7
  go_wp2_with (go_at_call 20; refine (place_nil _).mono ?_; rintro e w1 ⟨rfl, hw⟩; subst hw)
  go_ret
  exact ⟨rfl, below_box _ _⟩
theorem is_at (c : Int) (p b : Nat) (w : World) (h0 : w.cell? ⟨b, 0, none⟩ = some (.int .i64 c)) (h1 : w.cell? ⟨b, 1, none⟩ = some (.int .i64 (p : Nat))) (hg : ErrT w) : Calls Tryz.prog 7 #[.iface 70 (.pointer (some ⟨b, 0, none⟩)), .agg #[.int .i64 c, .int .i64 (p : Nat)]] w fun e w' => e = .returned (.bool true) ∧ Below w.heap.size w w' := by
  have hbl : b < w.heap.size := World.block_lt_of_cell? w ⟨b, 0, none⟩ h0
  have hb := below_box w (.cells #[.int .i64 c, .int .i64 (p : Nat)] 34)
  have HB := Hid.mk hb
  have HX := Hid.mk (Box.new w [.int .i64 c, .int .i64 (p : Nat)] 34 _ rfl)
  have HP := Hid.mk (place_at c p b _ ((hb.cell (p := ⟨b, 0, none⟩) hbl).trans h0) ((hb.cell (p := ⟨b, 1, none⟩) hbl).trans h1) (hg.below hb))
  clear hb h0 h1 hg
  go_enter Tryz.func7, Tryz.ntmps7
  go_wp2_with (go_at_call 20; refine HP.out.mono ?_; rintro e w1 ⟨rfl, hb1⟩; have HB1 := Hid.mk (bel_then HB.out hb1); have HX1 := Hid.mk (HX.out.below hb1); have x0 := HX1.out.cell 0 rfl; have x1 := HX1.out.cell 1 rfl; have xl := HX1.out.lt; clear hb1)
  go_ret
  exact ⟨rfl, HB1.out⟩
end Go.Proofs.YtedflhiflomoeaaGreatDoor

