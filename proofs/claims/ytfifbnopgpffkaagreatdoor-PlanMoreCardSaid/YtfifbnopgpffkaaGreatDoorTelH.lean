import Derived.Test.YtfifbnopgpffkaaGreatDoorProg
import Derived.WalkKit
import Derived.Maps.OwnOps
import Derived.Maps.Views
import Derived.Maps.RangeWalk
import Derived.Maps.Keyed
import Derived.Test.YtfifbnopgpffkaaGreatDoorPlnM
import Derived.Maps.OwnSet
import Derived.WalkSpells
import Derived.WalkLawsBesides
import Derived.Deep.QuietTactic
import Derived.BigQuiet
import Derived.Deep.RegionWith
import Derived.Deep.DeepFit
import Derived.Deep.MidRow
import Derived.Deep.AppendLies
import Derived.Deep.LoopGhost
import Derived.Deep.Cut
import Derived.Deep.DeepCutAuto
import Derived.Deep.RegionLaw
import Derived.Deep.RegionHeld3
import Derived.Lib.QuietBelow
import Derived.Lib.LazyBuf
import Derived.Laws.ResultCell
import Derived.LaidEql
import Derived.RowKitTokens
import Derived.Stop.Asserts
set_option linter.unusedSimpArgs false
set_option linter.unusedVariables false
namespace Go.Proofs.YtfifbnopgpffkaaGreatDoor.Dk
open Go.RowKit Go.Maps

/-- An element, as it lies there. -/
def Rv (v : Value) : Option (DataW Value × List MemPlace) := some (.held v, [])
def Sees (D : DataW Value) (m : Lit → Option Value) : Prop := IsMap D ∧ ∀ kl, has D kl = (m kl).isSome ∧ ∀ z, D.atKey kl z = (match m kl with | some v => .held v | none => z)
/-- A map of the call's own: which element lies at which key. -/
def MapIs (w : World) (k : TypeId) (b n : Nat) (m : Lit → Option Value) : Prop := ∃ D : DataW Value, w.ownsMap Tryz.prog k Rv b n D ∧ Sees D m
open Classical in
noncomputable def putM (m : Lit → Option Value) (kl : Lit) (v : Value) : Lit → Option Value := fun x => if x = kl then some v else m x
theorem putM_at (m : Lit → Option Value) (kl : Lit) (v : Value) : putM m kl v kl = some v := by simp [putM]
theorem putM_off (m : Lit → Option Value) {kl x : Lit} (v : Value) (h : x ≠ kl) : putM m kl v x = m x := by simp [putM, h]
theorem Sees.put {D : DataW Value} {m : Lit → Option Value} (h : Sees D m) {kl : Lit} (hk : WideAt.IsKeyLit kl) (v : Value) : Sees (D.put kl (.held v)) (putM m kl v) := by
  refine ⟨h.1.put _ _, fun x => ?_⟩
  by_cases e : x = kl
  · subst e
    rw [putM_at]
    exact ⟨has_put_same h.1 hk _, fun z => atKey_put_same h.1 hk _ z⟩
  · rw [putM_off m v e]
    exact ⟨(has_put_other e _).trans (h.2 x).1, fun z => (atKey_put_other e _ z).trans ((h.2 x).2 z)⟩
theorem MapIs.made (w : World) (k : TypeId) : MapIs (w.alloc (.map #[] 0)) k w.heap.size 0 (fun _ => none) := ⟨.map [], World.ownsMap_made w _ k Rv, isMap_empty, fun kl => ⟨rfl, fun z => rfl⟩⟩
theorem MapIs.kept {w w' : World} {k : TypeId} {b n : Nat} {m : Lit → Option Value} {row : Option Nat} (h : MapIs w k b n m) (hg : w.grownBy w' row) (hne : some b ≠ row) : MapIs w' k b n m := by
  obtain ⟨D, h1, h2⟩ := h
  exact ⟨D, h1.kept hg hne, h2⟩
theorem MapIs.block {w w' : World} {k : TypeId} {b n : Nat} {m : Lit → Option Value} (h : MapIs w k b n m) (hb : w'.heap[b]? = w.heap[b]?) : MapIs w' k b n m := by
  obtain ⟨D, ⟨es, c, h1, h2⟩, h3⟩ := h
  exact ⟨D, ⟨es, c, hb.trans h1, h2⟩, h3⟩
theorem MapIs.lt {w : World} {k : TypeId} {b n : Nat} {m : Lit → Option Value} (h : MapIs w k b n m) : b < w.heap.size := by
  obtain ⟨D, h1, h2⟩ := h
  exact h1.lt
theorem MapIs.mono {w : World} {k : TypeId} {b n n' : Nat} {m : Lit → Option Value} (h : MapIs w k b n m) (hn : n ≤ n') : MapIs w k b n' m := by
  obtain ⟨D, h1, h2⟩ := h
  exact ⟨D, h1.mono hn, h2⟩
theorem MapIs.look {w : World} {k t e : TypeId} {b n : Nat} {m : Lit → Option Value} (h : MapIs w k b n m) (K : Keyed Tryz.prog k) (ht : Tryz.prog.underlying t = some (.map k e)) {z : Value} (hz : (zeroValue e).run Tryz.prog w = .ok z w) {key : Value} {kl : Lit} (hkey : keyOf Tryz.prog k key = some kl) (c : Bool) :
    (Instr.lookup t (.map (some b)) key c).run Tryz.prog w = .ok (if c then .tuple #[(m kl).getD z, .bool (m kl).isSome] else (m kl).getD z) w := by
  obtain ⟨D, ⟨es, clock, hb, F, -, rfl⟩, hs⟩ := h
  have h2 := (hs.2 kl).2
  rcases fit_look c K ht hz hb F hkey with ⟨hrun, -, hat⟩ | ⟨e0, y, -, -, hrun, hR, hat, -⟩
  · have : m kl = none := by
      cases hm : m kl with
      | none => rfl
      | some v =>
        have q1 := (hat (.held (.bool true))).symm.trans (h2 _)
        have q2 := (hat (.held (.bool false))).symm.trans (h2 _)
        rw [hm] at q1 q2
        have := q1.trans q2.symm
        simp at this
    rw [hrun, this]
    rfl
  · have hy : y = (.held e0.val, []) := (Option.some.inj hR).symm
    have : m kl = some e0.val := by
      cases hm : m kl with
      | none =>
        have q1 := (hat (.held (.bool true))).symm.trans (h2 _)
        have q2 := (hat (.held (.bool false))).symm.trans (h2 _)
        rw [hm] at q1 q2
        have := q1.symm.trans q2
        simp at this
      | some v =>
        have q1 := (hat (.held (.bool true))).symm.trans (h2 _)
        rw [hm, hy] at q1
        simp at q1
        rw [q1]
    rw [hrun, this]
    rfl
theorem MapIs.put {w : World} {k t e : TypeId} {b n : Nat} {m : Lit → Option Value} (h : MapIs w k b n m) (K : Keyed Tryz.prog k) (ht : Tryz.prog.underlying t = some (.map k e)) (hn : n < maxLen) {key : Value} {kl : Lit} (hkey : keyOf Tryz.prog k key = some kl) (v : Value) :
    ∃ w', (Instr.mapUpdate t (.map (some b)) key v).run Tryz.prog w = .ok () w' ∧ MapIs w' k b (n + 1) (putM m kl v) ∧ w.grownBy w' (some b) ∧ w'.heap.size = w.heap.size := by
  obtain ⟨D, h1, hs⟩ := h
  have h1' := h1
  obtain ⟨es, clock, hb, F, hsz, rfl⟩ := h1
  obtain ⟨es', clock', hrun, -⟩ := fit_store (R' := Rv) K ht hb F (Nat.lt_of_le_of_lt hsz hn) (fun _ _ _ _ hz => hz) hkey (show Rv v = some (.held v, []) from rfl)
  obtain ⟨w', q1, q2, q3⟩ := h1'.update K ht hn hkey (show Rv v = some (.held v, []) from rfl)
  refine ⟨w', q1, ⟨_, q2, hs.put (K.key hkey) v⟩, q3, ?_⟩
  have e := (Result.ok.inj (hrun.symm.trans q1)).2
  have e2 := congrArg (fun (V : World) => V.heap.size) e
  exact e2.symm.trans (Array.size_setIfInBounds ..)
theorem int_key {k : TypeId} (hk : Tryz.prog.underlying k = some (.int .i64)) (n : Nat) (h : n ≤ 1000000) : keyOf Tryz.prog k (.int .i64 (n : Int)) = some (.int .i64 (n : Int)) := by
  have hw : (Lit.int .i64 (n : Int)).wf = true := by
    have h1 : (-9223372036854775808 : Int) ≤ (n : Int) := by omega
    have h2 : (n : Int) ≤ 9223372036854775807 := by omega
    simp [Lit.wf, IntKind.min, IntKind.max, IntKind.signed, IntKind.bits, h1, h2]
  simp [keyOf, hk, mapKey, hw]
theorem str_key {k : TypeId} (hk : Tryz.prog.underlying k = some .string) (s : ByteArray) (h : s.size ≤ maxLen) : keyOf Tryz.prog k (.string s) = some (.string s.data.toList) := by
  simp [keyOf, hk, mapKey, h]
end Go.Proofs.YtfifbnopgpffkaaGreatDoor.Dk

namespace Go.Proofs.YtfifbnopgpffkaaGreatDoor.Pl
open Go.RowKit Go.Maps
open Fw (By FJob Flw ba strV encL zeroJ)

/-- Names and what lies there. -/
abbrev AM := List (By × Value)
def lookA (A : AM) (n : By) : Option Value := (A.find? fun x => x.1 == n).map (·.2)
def mvOf (A : AM) : Lit → Option Value
  | .string s => lookA A s
  | _ => none
abbrev keysA (A : AM) : List By := A.map (·.1)
theorem lookA_none {A : AM} {n : By} (h : n ∉ keysA A) : lookA A n = none := by
  unfold lookA
  rw [List.find?_eq_none.2 (fun x hx => by
    intro q
    exact h (List.mem_map.2 ⟨x, hx, by simpa using q⟩))]
  rfl
theorem mvOf_snoc {A : AM} {n : By} {v : Value} (h : n ∉ keysA A) : Dk.putM (mvOf A) (.string n) v = mvOf (A ++ [(n, v)]) := by
  funext l
  by_cases e : l = .string n
  · subst e
    rw [Dk.putM_at]
    show some v = lookA (A ++ [(n, v)]) n
    have h0 := lookA_none h
    unfold lookA at h0 ⊢
    rw [List.find?_append]
    cases hf : A.find? fun x => x.1 == n with
    | none => simp
    | some x => rw [hf] at h0; cases h0
  · rw [Dk.putM_off _ _ e]
    cases l with
    | string s =>
      have hs : s ≠ n := fun q => e (by rw [q])
      show lookA A s = lookA (A ++ [(n, v)]) s
      unfold lookA
      rw [List.find?_append]
      cases hf : A.find? fun x => x.1 == s with
      | none =>
        have hne : ¬ n = s := fun q => hs q.symm
        simp [hne]
      | some x => rfl
    | _ => rfl
/-- A map of columns, of the call's own. -/
structure MapC (w : World) (b : Nat) (A : AM) : Prop where
  is : ∃ D : DataW Value, w.ownsMap Tryz.prog 9 Dk.Rv b A.length D ∧ Dk.Sees D (mvOf A) ∧ Maps.size D = A.length
  nd : (keysA A).Nodup
theorem keyedS : Keyed Tryz.prog 9 := string_keyed Tryz.underlying9
theorem MapC.mapIs {w : World} {b : Nat} {A : AM} (h : MapC w b A) : Dk.MapIs w 9 b A.length (mvOf A) := by
  obtain ⟨D, h1, h2, -⟩ := h.is
  exact ⟨D, h1, h2⟩
theorem MapC.made (w : World) : MapC (w.alloc (.map #[] 0)) w.heap.size [] := ⟨⟨.map [], World.ownsMap_made w _ _ Dk.Rv, ⟨isMap_empty, fun kl => by cases kl <;> exact ⟨rfl, fun z => rfl⟩⟩, rfl⟩, by simp⟩
theorem MapC.lt {w : World} {b : Nat} {A : AM} (h : MapC w b A) : b < w.heap.size := h.mapIs.lt
theorem MapC.block {w w' : World} {b : Nat} {A : AM} (h : MapC w b A) (hb : w'.heap[b]? = w.heap[b]?) : MapC w' b A := by
  obtain ⟨⟨D, ⟨es, c, h1, h2⟩, h3⟩, h4⟩ := h
  exact ⟨⟨D, ⟨es, c, hb.trans h1, h2⟩, h3⟩, h4⟩
theorem MapC.below {w w' : World} {b : Nat} {A : AM} (h : MapC w b A) (hb : Below w.heap.size w w') : MapC w' b A := h.block (hb.block b h.lt)
theorem MapC.obj {w : World} {b : Nat} {A : AM} (h : MapC w b A) : ∃ es c, w.heap[b]? = some (.map es c) := by
  obtain ⟨D, ⟨es, c, h1, -⟩, -⟩ := h.is
  exact ⟨es, c, h1⟩
theorem MapC.put {w : World} {b : Nat} {A : AM} {n : By} (h : MapC w b A) (hn : n ∉ keysA A) (hl : A.length < 1000000) (hs : n.length ≤ 1000) (v : Value) :
    ∃ w', (Instr.mapUpdate 30 (.map (some b)) (.string (ba n)) v).run Tryz.prog w = .ok () w' ∧ MapC w' b (A ++ [(n, v)]) ∧ w.grownBy w' (some b) ∧ w'.heap.size = w.heap.size := by
  obtain ⟨D, h1, h2, h3⟩ := h.is
  have hkey : keyOf Tryz.prog 9 (.string (ba n)) = some (.string n) := Dk.str_key Tryz.underlying9 (ba n) (Nat.le_trans hs (by decide))
  obtain ⟨w1, hr1, -, hg1, hz1⟩ := (show Dk.MapIs w 9 b A.length (mvOf A) from ⟨D, h1, h2⟩).put keyedS Tryz.underlying30 (Nat.lt_of_lt_of_le hl (by decide)) hkey v
  obtain ⟨w', q1, q2, q3⟩ := h1.update (val := v) keyedS Tryz.underlying30 (Nat.lt_of_lt_of_le hl (by decide)) hkey (show Dk.Rv v = some (.held v, []) from rfl)
  have e := (Result.ok.inj (hr1.symm.trans q1)).2
  subst e
  refine ⟨w1, hr1, ⟨⟨D.put (.string n) (.held v), ?_, ?_, ?_⟩, ?_⟩, hg1, hz1⟩
  · rw [List.length_append]; exact q2
  · rw [← mvOf_snoc hn]; exact h2.put (keyedS.key hkey) v
  · obtain ⟨es, rfl, hap, -⟩ := h1.entries keyedS
    rw [size_put ⟨es, rfl, hap⟩, List.length_append, List.length_singleton]
    have : has (DataW.map es) (.string n) = false := by
      rw [(h2.2 (.string n)).1]
      show (lookA A n).isSome = false
      rw [lookA_none hn]; rfl
    rw [this, h3]
    rfl
  · rw [keysA, List.map_append]
    exact nodup_snoc h.nd hn
theorem MapC.look {w : World} {b : Nat} {A : AM} (h : MapC w b A) (n : By) (hs : n.length ≤ 1000) (c : Bool) :
    (Instr.lookup 30 (.map (some b)) (.string (ba n)) c).run Tryz.prog w = .ok (if c then .tuple #[(lookA A n).getD (.slice none 0 0), .bool (lookA A n).isSome] else (lookA A n).getD (.slice none 0 0)) w := by
  have hkey : keyOf Tryz.prog 9 (.string (ba n)) = some (.string n) := Dk.str_key Tryz.underlying9 (ba n) (Nat.le_trans hs (by decide))
  exact h.mapIs.look keyedS Tryz.underlying30 (z := .slice none 0 0) (by kernel_rfl) hkey c
theorem MapC.len {w : World} {b : Nat} {A : AM} (h : MapC w b A) (ty : TypeId) : (Builtin.len_ #[30] ty #[.map (some b)]).run Tryz.prog w = .ok (.int .i64 (A.length : Nat)) w := by
  obtain ⟨D, h1, h2, h3⟩ := h.is
  rw [← h3]
  exact h1.len Tryz.underlying30 ty
/-- What lies in a map is columns. -/
def Holds2 (w : World) : AM → CM → Prop
  | [], [] => True
  | a :: A, c :: m => (a.1 = c.1 ∧ ColV w a.2 c.2) ∧ Holds2 w A m
  | _, _ => False
theorem Holds2.imp {w w' : World} {A : AM} {m : CM} (h : Holds2 w A m) (hm : ∀ c ∈ m, CsOK c.2) (hi : ∀ u cs, CsOK cs → ColV w u cs → ColV w' u cs) : Holds2 w' A m := by
  induction A generalizing m with
  | nil => cases m with
    | nil => trivial
    | cons c m => exact h.elim
  | cons a A ih => cases m with
    | nil => exact h.elim
    | cons c m => exact ⟨⟨h.1.1, hi _ _ (hm c (by simp)) h.1.2⟩, ih h.2 (fun x hx => hm x (by simp [hx]))⟩
theorem Holds2.keys {w : World} {A : AM} {m : CM} (h : Holds2 w A m) : keysA A = keysM m := by
  induction A generalizing m with
  | nil => cases m with
    | nil => rfl
    | cons c m => exact h.elim
  | cons a A ih => cases m with
    | nil => exact h.elim
    | cons c m => simp only [keysA, keysM, List.map_cons]; rw [h.1.1]; congr 1; exact ih h.2
theorem Holds2.snoc {w : World} {A : AM} {m : CM} {n : By} {u : Value} {cs : Cs} (h : Holds2 w A m) (hu : ColV w u cs) : Holds2 w (A ++ [(n, u)]) (m ++ [(n, cs)]) := by
  induction A generalizing m with
  | nil => cases m with
    | nil => exact ⟨⟨rfl, hu⟩, trivial⟩
    | cons c m => exact h.elim
  | cons a A ih => cases m with
    | nil => exact h.elim
    | cons c m => exact ⟨h.1, ih h.2⟩
theorem Holds2.look {w : World} {A : AM} {m : CM} (h : Holds2 w A m) {n : By} (hn : n ∈ keysM m) : ∃ u cs, lookA A n = some u ∧ lookM m n = some cs ∧ ColV w u cs ∧ (n, cs) ∈ m := by
  induction A generalizing m with
  | nil => cases m with
    | nil => cases hn
    | cons c m => exact h.elim
  | cons a A ih => cases m with
    | nil => exact h.elim
    | cons c m =>
      unfold lookA lookM
      by_cases e : c.1 = n
      · refine ⟨a.2, c.2, by simp [h.1.1, e], by simp [e], h.1.2, by rw [← e]; simp⟩
      · obtain ⟨u, cs, h1, h2, h3, h4⟩ := ih h.2 ((List.mem_cons.1 hn).resolve_left (fun q => e q.symm))
        refine ⟨u, cs, ?_, ?_, h3, by simp [h4]⟩
        · rw [List.find?_cons_of_neg (by simp [h.1.1, e])]; exact h1
        · rw [List.find?_cons_of_neg (by simp [e])]; exact h2
/-- Columns are no map. -/
theorem ColV.put {w w' : World} {u : Value} {cs : Cs} {b : Nat} (h : ColV w u cs) (hk : CsOK cs) (hb : ∃ es c, w.heap[b]? = some (.map es c)) (hg : w.grownBy w' (some b)) : ColV w' u cs := by
  obtain ⟨k, o, c, h1, h2, h3, h4⟩ := h
  have hne : k ≠ b := by
    rintro rfl
    obtain ⟨es, cl, hm⟩ := hb
    have := (h4 0 hk.1).1
    simp [World.cell?, hm] at this
  refine ⟨k, o, c, h1, h2, Nat.lt_of_lt_of_le h3 hg.size, fun j hj => ?_⟩
  have hbk := hg.block k h3 (by intro e; injection e with e; exact hne e)
  exact ⟨(World.cell?_of_block hbk).trans (h4 j hj).1, (World.cell?_of_block hbk).trans (h4 j hj).2⟩
end Go.Proofs.YtfifbnopgpffkaaGreatDoor.Pl

namespace Go.Proofs.YtfifbnopgpffkaaGreatDoor.Dk
open Go.RowKit

/-- Bytes, and what they are as cells. -/
abbrev Bs := List UInt8
def bc (l : Bs) : List Value := l.map fun x => Value.int .u8 (x.toNat : Int)
theorem bc_len (l : Bs) : (bc l).length = l.length := by simp [bc]
theorem bc_app (a b : Bs) : bc (a ++ b) = bc a ++ bc b := by simp [bc]
theorem bc_one (l : Bs) : ∀ v ∈ bc l, v.oneCell' = true := by
  intro v hv
  obtain ⟨x, _, rfl⟩ := List.mem_map.1 hv
  rfl
/-- A disk: what is sure, what is not, the fuse. -/
structure St where
  sure : List Bs
  ws : List (Nat × Bs)
  fuse : Int
def zeros : Bs := List.replicate 64 0
def pad (l : Bs) : Bs := l ++ List.replicate (64 - l.length) 0
theorem pad_len (l : Bs) (h : l.length ≤ 64) : (pad l).length = 64 := by simp [pad]; omega
def newD (n : Nat) : St := ⟨List.replicate n zeros, [], -1⟩
structure St.Ok (d : St) : Prop where
  lo : 8 ≤ d.sure.length
  hi : d.sure.length ≤ 16384
  s64 : ∀ s ∈ d.sure, s.length = 64
  wok : ∀ x ∈ d.ws, x.1 < d.sure.length ∧ x.2.length = 64
  few : d.ws.length ≤ 1000000
  f0 : -9223372036854775808 ≤ d.fuse
  f1 : d.fuse ≤ 9223372036854775807
def St.burnt (d : St) : St := ⟨d.sure, d.ws, if 0 < d.fuse then d.fuse - 1 else d.fuse⟩
def St.live (d : St) : Bool := d.fuse != 0
def St.wrote (d : St) (k : Nat) (l : Bs) : St := ⟨d.sure, d.ws ++ [(k, pad l)], d.fuse⟩
/-- Those that are kept, one by one, from place i on. -/
def settleL (kept : Nat → Bool) : Nat → List Bs → List (Nat × Bs) → List Bs
  | _, s, [] => s
  | i, s, x :: r => settleL kept (i + 1) (if kept i then s.set x.1 x.2 else s) r
def St.settled (d : St) (kept : Nat → Bool) : St := ⟨settleL kept 0 d.sure d.ws, [], d.fuse⟩
/-- What was written to a sector last. -/
def lastL (k : Nat) : List (Nat × Bs) → Option Bs
  | [] => none
  | x :: r => (lastL k r).or (if x.1 = k then some x.2 else none)
def St.read (d : St) (k : Nat) : Bs := (lastL k d.ws).getD (d.sure[k]?.getD [])

theorem settle_snoc (kept : Nat → Bool) : ∀ (r : List (Nat × Bs)) (i : Nat) (s : List Bs) (x : Nat × Bs), settleL kept i s (r ++ [x]) = (if kept (i + r.length) then (settleL kept i s r).set x.1 x.2 else settleL kept i s r)
  | [], i, s, x => by simp [settleL]
  | y :: r, i, s, x => by
    simp only [List.cons_append, settleL, List.length_cons]
    rw [settle_snoc kept r (i + 1) _ x, show i + 1 + r.length = i + (r.length + 1) by omega]
theorem settle_len (kept : Nat → Bool) : ∀ (r : List (Nat × Bs)) (i : Nat) (s : List Bs), (settleL kept i s r).length = s.length
  | [], i, s => rfl
  | y :: r, i, s => by rw [settleL, settle_len kept r]; split <;> simp
theorem settle_64 (kept : Nat → Bool) : ∀ (r : List (Nat × Bs)) (i : Nat) (s : List Bs), (∀ x ∈ r, x.2.length = 64) → (∀ x ∈ s, x.length = 64) → ∀ x ∈ settleL kept i s r, x.length = 64
  | [], i, s, _, hs => hs
  | y :: r, i, s, hr, hs => by
    rw [settleL]
    refine settle_64 kept r _ _ (fun x hx => hr x (by simp [hx])) ?_
    split
    · intro x hx
      rcases List.mem_or_eq_of_mem_set hx with h | h
      · exact hs x h
      · rw [h]; exact hr y (by simp)
    · exact hs
theorem ok_new (n : Nat) (h8 : 8 ≤ n) (hn : n ≤ 16384) : (newD n).Ok := by
  refine ⟨by simpa [newD] using h8, by simpa [newD] using hn, fun s hs => ?_, fun x hx => by simp [newD] at hx, by simp [newD], by simp [newD], by simp [newD]⟩
  have := List.eq_of_mem_replicate hs
  rw [this]; simp [zeros]
theorem ok_burnt {d : St} (h : d.Ok) : d.burnt.Ok := by
  obtain ⟨a, b, c, e, f, g, i⟩ := h
  refine ⟨a, b, c, e, f, ?_, ?_⟩ <;> simp only [St.burnt] <;> split <;> omega
theorem ok_wrote {d : St} (h : d.Ok) (k : Nat) (l : Bs) (hk : k < d.sure.length) (hl : l.length ≤ 64) (hf : d.ws.length < 1000000) : (d.wrote k l).Ok := by
  obtain ⟨a, b, c, e, f, g, i⟩ := h
  refine ⟨a, b, c, fun x hx => ?_, by simp [St.wrote]; omega, g, i⟩
  simp only [St.wrote, List.mem_append, List.mem_singleton] at hx
  rcases hx with hx | rfl
  · exact e x hx
  · exact ⟨hk, pad_len l hl⟩
theorem ok_settled {d : St} (h : d.Ok) (kept : Nat → Bool) : (d.settled kept).Ok := by
  obtain ⟨a, b, c, e, f, g, i⟩ := h
  refine ⟨by simpa [St.settled, settle_len] using a, by simpa [St.settled, settle_len] using b, ?_, fun x hx => by simp [St.settled] at hx, by simp [St.settled], g, i⟩
  exact settle_64 kept _ _ _ (fun x hx => (e x hx).2) c
theorem ok_fuse {d : St} (h : d.Ok) (n : Int) (h0 : -9223372036854775808 ≤ n) (h1 : n ≤ 9223372036854775807) : (⟨d.sure, d.ws, n⟩ : St).Ok := ⟨h.lo, h.hi, h.s64, h.wok, h.few, h0, h1⟩

/-- Sectors, writes, as cells. -/
def flat (l : List Bs) : List Value := l.flatMap bc
def wcell (x : Nat × Bs) : List Value := .int .i64 (x.1 : Int) :: bc x.2
def flatW (l : List (Nat × Bs)) : List Value := l.flatMap wcell
theorem flat_len : ∀ (l : List Bs), (∀ s ∈ l, s.length = 64) → (flat l).length = l.length * 64
  | [], _ => rfl
  | a :: r, h => by
    have e : flat (a :: r) = bc a ++ flat r := rfl
    rw [e, List.length_append, bc_len, h a (by simp), flat_len r (fun s hs => h s (by simp [hs])), List.length_cons]; omega
theorem flatW_len : ∀ (l : List (Nat × Bs)), (∀ x ∈ l, x.2.length = 64) → (flatW l).length = l.length * 65
  | [], _ => rfl
  | a :: r, h => by
    have e : flatW (a :: r) = wcell a ++ flatW r := rfl
    rw [e, List.length_append, flatW_len r (fun s hs => h s (by simp [hs])), List.length_cons, wcell, List.length_cons, bc_len, h a (by simp)]; omega
theorem flatW_app (a b : List (Nat × Bs)) : flatW (a ++ b) = flatW a ++ flatW b := by simp [flatW]
theorem flat_at : ∀ (l : List Bs) (k j : Nat) (v : Value), (∀ s ∈ l, s.length = 64) → k < l.length → (bc (l[k]?.getD []))[j]? = some v → (flat l)[k * 64 + j]? = some v
  | [], k, j, v, _, hk, _ => by simp at hk
  | a :: r, 0, j, v, h, _, hv => by
    have e : flat (a :: r) = bc a ++ flat r := rfl
    simp at hv
    rw [e, Nat.zero_mul, Nat.zero_add, List.getElem?_append_left ?_]
    · exact hv
    · exact (List.getElem?_eq_some_iff.1 hv).1
  | a :: r, k + 1, j, v, h, hk, hv => by
    have e : flat (a :: r) = bc a ++ flat r := rfl
    simp only [List.getElem?_cons_succ] at hv
    rw [e, List.getElem?_append_right (by rw [bc_len, h a (by simp)]; omega), bc_len, h a (by simp), show (k + 1) * 64 + j - 64 = k * 64 + j by omega]
    exact flat_at r k j v (fun s hs => h s (by simp [hs])) (by simpa using hk) hv
theorem flatW_at : ∀ (l : List (Nat × Bs)) (k j : Nat) (v : Value) (h : k < l.length), (∀ x ∈ l, x.2.length = 64) → (wcell l[k])[j]? = some v → (flatW l)[k * 65 + j]? = some v
  | [], k, j, v, hk, _, _ => by simp at hk
  | a :: r, 0, j, v, _, h, hv => by
    have e : flatW (a :: r) = wcell a ++ flatW r := rfl
    simp at hv
    rw [e, Nat.zero_mul, Nat.zero_add, List.getElem?_append_left ?_]
    · exact hv
    · exact (List.getElem?_eq_some_iff.1 hv).1
  | a :: r, k + 1, j, v, hk, h, hv => by
    have e : flatW (a :: r) = wcell a ++ flatW r := rfl
    have ea : (wcell a).length = 65 := by rw [wcell, List.length_cons, bc_len, h a (by simp)]
    simp only [List.getElem_cons_succ] at hv
    rw [e, List.getElem?_append_right (by rw [ea]; omega), ea, show (k + 1) * 65 + j - 65 = k * 65 + j by omega]
    exact flatW_at r k j v (by simpa using hk) (fun s hs => h s (by simp [hs])) hv
theorem flat_one (l : List Bs) : ∀ v ∈ flat l, v.oneCell' = true := by
  intro v hv
  obtain ⟨s, _, hs⟩ := List.mem_flatMap.1 hv
  exact bc_one s v hs
theorem wcell_one (x : Nat × Bs) : ∀ v ∈ wcell x, v.oneCell' = true := by
  intro v hv
  rw [wcell, List.mem_cons] at hv
  rcases hv with rfl | hv
  · rfl
  · exact bc_one _ v hv

/-- All is as it was, but some blocks. -/
structure Keep (X : List Nat) (w w' : World) : Prop where
  os : w'.os = w.os
  tape : w'.tape = w.tape
  output : w'.output = w.output
  size : w.heap.size ≤ w'.heap.size
  block : ∀ k, k < w.heap.size → k ∉ X → w'.heap[k]? = w.heap[k]?
theorem Keep.refl (X : List Nat) (w : World) : Keep X w w := ⟨rfl, rfl, rfl, Nat.le_refl _, fun _ _ _ => rfl⟩
theorem Keep.of {X : List Nat} {w w' : World} (h : Below w.heap.size w w') : Keep X w w' := ⟨h.os, h.tape, h.output, h.size, fun k hk _ => h.block k hk⟩
theorem Keep.then {X Y : List Nat} {a b c : World} (h : Keep X a b) (k : Keep Y b c) (hY : ∀ y ∈ Y, y ∈ X ∨ a.heap.size ≤ y) : Keep X a c :=
  ⟨k.os.trans h.os, k.tape.trans h.tape, k.output.trans h.output, Nat.le_trans h.size k.size, fun i hi hne => (k.block i (Nat.lt_of_lt_of_le hi h.size) (fun hy => (hY i hy).elim hne (fun q => by omega))).trans (h.block i hi hne)⟩
theorem Keep.sub {X Y : List Nat} {a b : World} (h : Keep X a b) (hX : ∀ x ∈ X, x ∈ Y ∨ a.heap.size ≤ x) : Keep Y a b :=
  ⟨h.os, h.tape, h.output, h.size, fun i hi hne => h.block i hi (fun hx => (hX i hx).elim hne (fun q => by omega))⟩
theorem Keep.below {X : List Nat} {B : Nat} {w w' : World} (h : Keep X w w') (hX : ∀ x ∈ X, B ≤ x) (hs : B ≤ w.heap.size) : Below B w w' :=
  ⟨h.os, h.tape, h.output, h.size, fun k hk => h.block k (by omega) (fun hx => by have := hX k hx; omega)⟩
theorem Keep.drew {X : List Nat} {w w' : World} (h : Keep X w w') : Keep X w w'.drew := ⟨h.os, h.tape, h.output, h.size, h.block⟩
theorem Keep.set {X : List Nat} {w w' : World} (h : Keep X w w') (R o : Nat) (v : Value) (hR : R ∈ X ∨ w.heap.size ≤ R) : Keep X w (w'.setCell ⟨R, o, none⟩ v) :=
  ⟨h.os, h.tape, h.output, by have := h.size; simp [World.setCell]; omega, fun k hk hne => (Below.heap_setCell _ _ _ _ (by rintro rfl; exact hR.elim hne (fun q => by omega))).trans (h.block k hk hne)⟩
theorem Keep.sets {X : List Nat} {R : Nat} : ∀ (vs : List Value) (o : Nat) {w w' : World}, Keep X w w' → (R ∈ X ∨ w.heap.size ≤ R) → Keep X w (w'.setCells R o vs)
  | [], _, _, _, h, _ => h
  | v :: r, o, w, w', h, hR => by rw [World.setCells]; exact Keep.sets r (o + 1) (h.set R o v hR) hR
theorem Keep.alloc {X : List Nat} {w w' : World} (h : Keep X w w') (o : Obj) : Keep X w (w'.alloc o) :=
  ⟨h.os, h.tape, h.output, by have := h.size; simp; omega, fun k hk hne => (Below.heap_alloc _ _ _ (by have := h.size; omega)).trans (h.block k hk hne)⟩
theorem Keep.grown {X : List Nat} {w w' w'' : World} {row : Option Nat} (h : Keep X w w') (hg : w'.grownBy w'' row) (hX : ∀ r, row = some r → r ∈ X ∨ w.heap.size ≤ r) : Keep X w w'' :=
  ⟨hg.os.trans h.os, hg.tape.trans h.tape, hg.output.trans h.output, Nat.le_trans h.size hg.size, fun k hk hne => (hg.block k (Nat.lt_of_lt_of_le hk h.size) (fun e => (hX k e.symm).elim hne (fun q => by omega))).trans (h.block k hk hne)⟩

/-- A block of cells, whole. -/
def Blk (w : World) (k : Nat) (vs : List Value) : Prop := ∃ T, w.heap[k]? = some (.cells vs.toArray T (0, 0))
theorem Blk.lt {w : World} {k : Nat} {vs : List Value} (h : Blk w k vs) : k < w.heap.size := by
  obtain ⟨T, h⟩ := h
  rcases Nat.lt_or_ge k w.heap.size with h1 | h1
  · exact h1
  · rw [Array.getElem?_eq_none h1] at h; simp at h
theorem Blk.cell {w : World} {k : Nat} {vs : List Value} (h : Blk w k vs) (i : Nat) {v : Value} (hv : vs[i]? = some v) : w.cell? ⟨k, i, none⟩ = some v := by
  obtain ⟨T, h⟩ := h
  simp [World.cell?, h, hv]
theorem Blk.fz {w : World} {k : Nat} {vs : List Value} (h : Blk w k vs) (i : Nat) : w.frozen? ⟨k, i, none⟩ = false := by
  obtain ⟨T, h⟩ := h
  simp [World.frozen?, h]
theorem Blk.range {w : World} {k o : Nat} {vs us : List Value} (h : Blk w k vs) (hu : ∀ j v, us[j]? = some v → vs[o + j]? = some v) : w.rangeAt k o us := fun j v hv => h.cell _ (hu j v hv)
theorem Blk.there {w : World} {k o n : Nat} {vs : List Value} (h : Blk w k vs) (hn : o + n ≤ vs.length) : w.there k o n := fun j hj => by
  rw [h.cell (o + j) (List.getElem?_eq_getElem (by omega)), h.fz]; exact ⟨rfl, rfl⟩
theorem Blk.block {w w' : World} {k : Nat} {vs : List Value} (h : Blk w k vs) (hb : w'.heap[k]? = w.heap[k]?) : Blk w' k vs := by
  obtain ⟨T, h⟩ := h
  exact ⟨T, hb.trans h⟩
theorem Blk.below {w w' : World} {k : Nat} {vs : List Value} (h : Blk w k vs) (hb : Below w.heap.size w w') : Blk w' k vs := h.block (hb.block k h.lt)
theorem Blk.keep {X : List Nat} {w w' : World} {k : Nat} {vs : List Value} (h : Blk w k vs) (hb : Keep X w w') (hk : k ∉ X) : Blk w' k vs := h.block (hb.block k h.lt hk)
theorem Blk.grown {w w' : World} {row : Option Nat} {k : Nat} {vs : List Value} (h : Blk w k vs) (hb : w.grownBy w' row) (hk : some k ≠ row) : Blk w' k vs := h.block (hb.block k h.lt hk)
theorem Blk.new (w : World) (vs : List Value) (T : TypeId) (k : Nat) (hk : k = w.heap.size) : Blk (w.alloc (.cells vs.toArray T)) k vs := by
  subst hk
  exact ⟨T, by show (w.heap.push _)[w.heap.size]? = _; simp⟩
theorem Blk.alloc {w : World} {k : Nat} {vs : List Value} (h : Blk w k vs) (o : Obj) : Blk (w.alloc o) k vs := h.block (Below.heap_alloc _ _ _ h.lt)
theorem Blk.set {w : World} {k : Nat} {vs : List Value} (h : Blk w k vs) (i : Nat) (v : Value) : Blk (w.setCell ⟨k, i, none⟩ v) k (vs.set i v) := by
  obtain ⟨T, h⟩ := h
  exact ⟨T, by simp [World.setCell, Array.getElem?_modify, h]⟩
theorem Blk.other {w : World} {k k' : Nat} {vs : List Value} (h : Blk w k vs) (i : Nat) (v : Value) (hk : k ≠ k') : Blk (w.setCell ⟨k', i, none⟩ v) k vs := h.block (Below.heap_setCell _ _ _ _ hk)
theorem Blk.others {w : World} {k k' : Nat} {vs : List Value} (us : List Value) (o : Nat) (h : Blk w k vs) (hk : k ≠ k') : Blk (w.setCells k' o us) k vs :=
  h.keep (Keep.sets (X := [k']) us o (Keep.refl _ w) (Or.inl (by simp))) (by simpa using hk)
/-- Cells laid over others, from a place on. -/
def overL (vs : List Value) : Nat → List Value → List Value
  | _, [] => vs
  | o, u :: r => overL (vs.set o u) (o + 1) r
theorem Blk.sets {k : Nat} : ∀ (us : List Value) (o : Nat) {w : World} {vs : List Value}, Blk w k vs → Blk (w.setCells k o us) k (overL vs o us)
  | [], _, _, _, h => h
  | u :: r, o, w, vs, h => by rw [World.setCells, overL]; exact Blk.sets r (o + 1) (h.set o u)
theorem over_len : ∀ (us : List Value) (o : Nat) (vs : List Value), (overL vs o us).length = vs.length
  | [], _, _ => rfl
  | u :: r, o, vs => by rw [overL, over_len]; simp
theorem over_app : ∀ (us : List Value) (a b : List Value), us.length ≤ b.length → overL (a ++ b) a.length us = a ++ us ++ b.drop us.length
  | [], a, b, _ => by simp [overL]
  | u :: r, a, b, h => by
    cases b with
    | nil => simp at h
    | cons c b =>
      rw [overL, List.set_append_right _ _ (Nat.le_refl _), Nat.sub_self, List.set_cons_zero]
      have := over_app r (a ++ [u]) b (by simpa using h)
      rw [List.length_append, List.length_singleton, List.append_assoc] at this
      simpa using this

/-- The blocks of a disk. -/
def blocks (D S : Nat) (vw : Value) : List Nat := D :: S :: vw.ownBlock.toList
theorem own_lt {w : World} {base : Nat} {e : TypeId} {size : Nat} {v : Value} {n : Nat} {xs : List Value} (h : w.ownsRow base e size v n xs) {g : Nat} (hg : v.ownBlock = some g) : g < w.heap.size := by
  obtain ⟨-, ⟨rfl, -⟩ | ⟨g', cap, cur, rfl, hB, hh, -⟩⟩ := h
  · simp [Value.ownBlock] at hg
  · simp [Value.ownBlock] at hg
    subst hg
    rcases Nat.lt_or_ge g' w.heap.size with q | q
    · exact q
    · rw [Array.getElem?_eq_none q] at hh; simp at hh
theorem own_form {w : World} {B : Nat} {e : TypeId} {z : Nat} {v : Value} {n : Nat} {xs : List Value} (h : w.ownsRow B e z v n xs) : ∃ a c, v = .slice a n c ∧ n ≤ c := by
  obtain ⟨-, ⟨rfl, hn⟩ | ⟨g, cp, cur, rfl, -, -, hc, -⟩⟩ := h
  · exact ⟨none, 0, by rw [hn], by omega⟩
  · exact ⟨_, _, rfl, hc⟩
theorem own_other {w : World} {base : Nat} {e : TypeId} {size : Nat} {v : Value} {n : Nat} {xs : List Value} (h : w.ownsRow base e size v n xs) (R o : Nat) (x : Value) (hR : v.ownBlock ≠ some R) : (w.setCell ⟨R, o, none⟩ x).ownsRow base e size v n xs := by
  obtain ⟨h1, h2⟩ := h
  refine ⟨h1, ?_⟩
  rcases h2 with h2 | ⟨g, cap, cur, rfl, hB, hh, hr⟩
  · exact Or.inl h2
  · exact Or.inr ⟨g, cap, cur, rfl, hB, (Below.heap_setCell _ _ _ _ (by rintro rfl; exact hR rfl)).trans hh, hr⟩
theorem hid {p : Prop} (h : p) : Hid p := h
theorem ret_bool {a b : Bool} (h : a = b) : Ending.returned (.bool a) = .returned (.bool b) := by rw [h]

theorem burnt_not {d : St} (hf : ¬ 0 < d.fuse) : d.burnt = d := by
  unfold St.burnt
  rw [if_neg hf]
end Go.Proofs.YtfifbnopgpffkaaGreatDoor.Dk

namespace Go.Proofs.YtfifbnopgpffkaaGreatDoor.Dk
open Go.RowKit

/-- A list in memory. -/
def Lst (w : World) (v : Value) (xs : List Value) : Prop := ∃ a c, v = .slice a xs.length c ∧ (xs = [] ∨ ∃ b o, a = some ⟨b, o, none⟩ ∧ b < w.heap.size ∧ w.rangeAt b o xs)
theorem Lst.mv {w w' : World} {v : Value} {xs : List Value} (h : Lst w v xs) (hs : w.heap.size ≤ w'.heap.size) (hb : ∀ k, v.ownBlock = some k → w'.heap[k]? = w.heap[k]?) : Lst w' v xs := by
  obtain ⟨a, c, rfl, h⟩ := h
  refine ⟨a, c, rfl, ?_⟩
  rcases h with h | ⟨b, o, rfl, hl, hr⟩
  · exact Or.inl h
  · exact Or.inr ⟨b, o, rfl, Nat.lt_of_lt_of_le hl hs, fun j v hv => (World.cell?_of_block (w := w) (hb b rfl)).trans (hr j v hv)⟩
theorem Lst.below {w w' : World} {v : Value} {xs : List Value} (h : Lst w v xs) (hb : Below w.heap.size w w') : Lst w' v xs := by
  obtain ⟨a, c, rfl, h⟩ := h
  refine ⟨a, c, rfl, ?_⟩
  rcases h with h | ⟨b, o, rfl, hl, hr⟩
  · exact Or.inl h
  · exact Or.inr ⟨b, o, rfl, Nat.lt_of_lt_of_le hl hb.size, fun j v hv => (hb.cell (p := ⟨b, o + j, none⟩) hl).trans (hr j v hv)⟩
theorem Lst.keep {X : List Nat} {w w' : World} {v : Value} {xs : List Value} (h : Lst w v xs) (hb : Keep X w w') (hX : ∀ k ∈ X, v.ownBlock ≠ some k ∨ w.heap.size ≤ k) : Lst w' v xs := by
  obtain ⟨a, c, rfl, h⟩ := h
  refine ⟨a, c, rfl, ?_⟩
  rcases h with h | ⟨b, o, rfl, hl, hr⟩
  · exact Or.inl h
  · exact Or.inr ⟨b, o, rfl, Nat.lt_of_lt_of_le hl hb.size, fun j v hv => (World.cell?_of_block (w := w) (a := ⟨b, o + j, none⟩) (hb.block b hl (fun q => by rcases hX b q with q | q; exact q rfl; omega))).trans (hr j v hv)⟩
theorem Lst.keep2 {X : List Nat} {w w' : World} {v : Value} {xs : List Value} (h : Lst w v xs) (hb : Keep X w w') (hX : xs = [] ∨ ∀ k ∈ X, v.ownBlock ≠ some k) : Lst w' v xs := by
  rcases hX with hX | hX
  · obtain ⟨a, c, e, -⟩ := h
    exact ⟨a, c, e, Or.inl hX⟩
  · exact h.keep hb (fun k hk => Or.inl (hX k hk))
theorem Lst.at {w : World} {a : Option Addr} {n c : Nat} {xs : List Value} (h : Lst w (.slice a n c) xs) (hn : 0 < n) : n = xs.length ∧ ∃ b o, a = some ⟨b, o, none⟩ ∧ b < w.heap.size ∧ w.rangeAt b o xs := by
  obtain ⟨a', c', e, h⟩ := h
  injection e with e1 e2 e3
  subst e1 e2 e3
  rcases h with rfl | h
  · simp at hn
  · exact ⟨rfl, h⟩
def bl (l : List Bool) : List Value := l.map Value.bool
/-- What a power cut keeps. -/
def keptL (l : List Bool) (i : Nat) : Bool := l[i]?.getD false
theorem own_range {w : World} {g cap n : Nat} {ws : List (Nat × Bs)} {e : TypeId} (h : w.ownsRow 0 e 65 (.slice (some ⟨g, 0, none⟩) n cap) n (flatW ws)) (hw : ∀ x ∈ ws, x.2.length = 64) (k : Nat) (hk : k < ws.length) : w.rangeAt g (k * 65) (wcell ws[k]) := by
  obtain ⟨-, ⟨h1, -⟩ | ⟨g', cap', cur, e, hB, hh, hn, hm, hs, ht⟩⟩ := h
  · cases h1
  injection e with e1 e2 e3
  injection e1 with e1
  injection e1 with e1
  subst e1
  intro j v hv
  have hx := flatW_at ws k j v hk hw hv
  rw [← ht, List.getElem?_take] at hx
  split at hx
  · simp only [World.cell?, hh]
    simpa using hx
  · cases hx
theorem wcell_len {x : Nat × Bs} (h : x.2.length = 64) : (wcell x).length = 65 := by rw [wcell, List.length_cons, bc_len, h]
theorem own_keep {X : List Nat} {w w' : World} {base : Nat} {e : TypeId} {size : Nat} {v : Value} {n : Nat} {xs : List Value} (h : w.ownsRow base e size v n xs) (hk : Keep X w w') (hX : ∀ g, v.ownBlock = some g → g ∉ X) : w'.ownsRow base e size v n xs := by
  have hl := fun g => own_lt (g := g) h
  obtain ⟨h1, h2⟩ := h
  refine ⟨h1, ?_⟩
  rcases h2 with h2 | ⟨g, cap, cur, rfl, hB, hh, hr⟩
  · exact Or.inl h2
  · exact Or.inr ⟨g, cap, cur, rfl, hB, (hk.block g (hl g rfl) (hX g rfl)).trans hh, hr⟩
theorem over_all (vs us : List Value) (h : vs.length = us.length) : overL vs 0 us = us := by
  have := over_app us [] vs (by omega)
  simp only [List.nil_append, List.length_nil] at this
  rw [this, List.drop_eq_nil_of_le (by omega)]
  simp
def allK : Nat → Bool := fun _ => true
theorem over_behind : ∀ (us a b : List Value) (o : Nat), overL (a ++ b) (a.length + o) us = a ++ overL b o us
  | [], _, _, _ => rfl
  | u :: r, a, b, o => by
    rw [overL, overL, List.set_append_right _ _ (by omega), show a.length + o - a.length = o by omega]
    exact over_behind r a (b.set o u) (o + 1)
theorem flat_set : ∀ (l : List Bs) (k : Nat) (t : Bs), (∀ s ∈ l, s.length = 64) → t.length = 64 → k < l.length → overL (flat l) (k * 64) (bc t) = flat (l.set k t)
  | [], k, t, _, _, hk => by simp at hk
  | a :: r, 0, t, h, ht, _ => by
    have e : flat (a :: r) = bc a ++ flat r := rfl
    have e2 : flat ((a :: r).set 0 t) = bc t ++ flat r := rfl
    have := over_app (bc t) [] (bc a ++ flat r) (by rw [List.length_append, bc_len, bc_len, h a (by simp), ht]; omega)
    rw [e, e2, Nat.zero_mul]
    simp only [List.nil_append, List.length_nil] at this
    rw [this, List.drop_append, bc_len, bc_len, h a (by simp), ht, List.drop_eq_nil_of_le (by rw [bc_len, h a (by simp)]; omega)]
    simp
  | a :: r, k + 1, t, h, ht, hk => by
    have e : flat (a :: r) = bc a ++ flat r := rfl
    have e2 : flat ((a :: r).set (k + 1) t) = bc a ++ flat (r.set k t) := rfl
    have ih := flat_set r k t (fun s hs => h s (by simp [hs])) ht (by simpa using hk)
    have ea : (bc a).length = 64 := by rw [bc_len, h a (by simp)]
    rw [e, e2, ← ih, show (k + 1) * 64 = (bc a).length + k * 64 by rw [ea]; omega]
    exact over_behind (bc t) (bc a) (flat r) (k * 64)


theorem settle_one (kept : Nat → Bool) (sure : List Bs) (ws : List (Nat × Bs)) (k : Nat) (hk : k < ws.length) : settleL kept 0 sure (ws.take (k + 1)) = (if kept k then (settleL kept 0 sure (ws.take k)).set ws[k].1 ws[k].2 else settleL kept 0 sure (ws.take k)) := by
  rw [List.take_succ_eq_append_getElem hk, settle_snoc, List.length_take, Nat.min_eq_left (by omega), Nat.zero_add]
theorem blocks_none (D S : Nat) : blocks D S (.slice none 0 0) = [D, S] := rfl
/-- Sync. -/
theorem live_burnt {d : St} : d.burnt.sure = d.sure ∧ d.burnt.ws = d.ws := ⟨rfl, rfl⟩
end Go.Proofs.YtfifbnopgpffkaaGreatDoor.Dk

namespace Go.Proofs.YtfifbnopgpffkaaGreatDoor.Dk
open Go.RowKit Go.Extern.Stop Go.Stop Go.Extern

/-- The variables' number. -/
theorem gsize : Tryz.prog.globals.size = 10 := by kernel_rfl
theorem valueOfP (t : Addr) (w : World) : (ReflectliteValue.unpack (.iface 90 (.pointer (some t)))).run Tryz.prog w
    = .ok (.agg #[.pointer (some ⟨10, 90, none⟩), .pointer (some ⟨w.heap.size, 0, none⟩), .int .u64 150]) (w.alloc (.cells #[.pointer (some t)] 90)) := by kernel_rfl
theorem typeP (a : Addr) (w : World) : (ReflectliteValue.methodAny (ReflectliteValue.valueError "reflectlite.Value.Type" 0) (fun t _ _ _ => ReflectliteType.toType t) #[.agg #[.pointer (some ⟨10, 90, none⟩), .pointer (some a), .int .u64 150]]).run Tryz.prog w
    = .ok (.iface 147 (.agg #[.pointer (some ⟨10, 90, none⟩)])) w := by kernel_rfl
theorem kindP (w : World) : ((ReflectliteType.abiMethod fun t => (fun a : Nat => Value.int IntKind.u8 (a : Int)) <$> Rtype.kind t) #[.pointer (some ⟨10, 90, none⟩)]).run Tryz.prog w = .ok (.int .u8 22) w := by kernel_rfl
theorem kindE (w : World) : ((ReflectliteType.abiMethod fun t => (fun a : Nat => Value.int IntKind.u8 (a : Int)) <$> Rtype.kind t) #[.pointer (some ⟨10, 62, none⟩)]).run Tryz.prog w = .ok (.int .u8 2) w := by kernel_rfl
theorem rlm (z : Sem Value) (f : TypeId → Addr → Nat → Nat → Sem Value) (v : Value) :
    ReflectliteValue.method z f #[v] = (do match ← ReflectliteValue.parts v with | none => z | some (t, a, fl) => f t a fl (fl % 32)) := rfl
theorem partsP (a : Addr) (w : World) : (ReflectliteValue.parts (.agg #[.pointer (some ⟨10, 90, none⟩), .pointer (some a), .int .u64 150])).run Tryz.prog w = .ok (some (90, a, 150)) w := by kernel_rfl
theorem isNilP (a p : Addr) (W : World) (ha : W.cell? a = some (.pointer (some p))) :
    (ReflectliteValue.method (ReflectliteValue.valueError "reflectlite.Value.IsNil" 0) ReflectliteValue.isNil #[.agg #[.pointer (some ⟨10, 90, none⟩), .pointer (some a), .int .u64 150]]).run Tryz.prog W = .ok (.bool false) W := by
  rw [rlm]
  simp only [Sem.run_bind, partsP, Result.andThen]
  simp [ReflectliteValue.isNil, loadVar, isAgg, underlying, Tryz.underlying90, ha, Result.andThen]
theorem elemT (w : World) : (ReflectliteType.method ReflectliteType.elem #[.agg #[.pointer (some ⟨10, 90, none⟩)]]).run Tryz.prog w = .ok (.iface 147 (.agg #[.pointer (some ⟨10, 62, none⟩)])) w := by kernel_rfl
theorem implE (w : World) : (ReflectliteType.relation "Implements" ReflectliteType.implements_ #[.agg #[.pointer (some ⟨10, 62, none⟩)], .iface 147 (.agg #[.pointer (some ⟨10, 32, none⟩)])]).run Tryz.prog w = .ok (.bool true) w := by kernel_rfl
theorem typeOfE (v : Value) (w : World) : (ReflectliteType.typeOf #[.iface 62 v]).run Tryz.prog w = .ok (.iface 147 (.agg #[.pointer (some ⟨10, 62, none⟩)])) w := by kernel_rfl
theorem assignE (w : World) : (ReflectliteType.relation "AssignableTo" ReflectliteType.assignableTo #[.agg #[.pointer (some ⟨10, 62, none⟩)], .iface 147 (.agg #[.pointer (some ⟨10, 62, none⟩)])]).run Tryz.prog w = .ok (.bool true) w := by kernel_rfl
theorem valueOfE (n : Int) (w : World) : (ReflectliteValue.unpack (.iface 62 (.int .i64 n))).run Tryz.prog w
    = .ok (.agg #[.pointer (some ⟨10, 62, none⟩), .pointer (some ⟨w.heap.size, 0, none⟩), .int .u64 130]) (w.alloc (.cells #[.int .i64 n] 62)) := by kernel_rfl
theorem elemOfP (w : World) : (Rtype.elem? 90).run Tryz.prog w = .ok (some 62) w := by kernel_rfl
theorem mkE (p : Addr) (w : World) : (ReflectliteValue.mk 62 p ReflectliteValue.flagAddr).run Tryz.prog w = .ok (.agg #[.pointer (some ⟨10, 62, none⟩), .pointer (some p), .int .u64 386]) w := by kernel_rfl
theorem elemV (a p : Addr) (W : World) (ha : W.cell? a = some (.pointer (some p))) :
    (ReflectliteValue.method (ReflectliteValue.valueError "reflectlite.Value.Elem" 0) ReflectliteValue.elem #[.agg #[.pointer (some ⟨10, 90, none⟩), .pointer (some a), .int .u64 150]]).run Tryz.prog W
      = .ok (.agg #[.pointer (some ⟨10, 62, none⟩), .pointer (some p), .int .u64 386]) W := by
  rw [rlm]
  simp only [Sem.run_bind, partsP, Result.andThen]
  simp [ReflectliteValue.elem, loadVar, isAgg, underlying, Tryz.underlying90, ha, Result.andThen, elemOfP, mkE]
end Go.Proofs.YtfifbnopgpffkaaGreatDoor.Dk

namespace Go.Proofs.YtfifbnopgpffkaaGreatDoor.Dk
open Go.RowKit Go.Extern.Stop Go.Stop Go.Extern

theorem methKind (h : Value) (w : World) : (Go.method 344 147 (.agg #[h]) "Kind").run Tryz.prog w = .ok (157, h) w := by kernel_rfl
theorem methElem (h : Value) (w : World) : (Go.method 344 147 (.agg #[h]) "Elem").run Tryz.prog w = .ok (169, .agg #[h]) w := by kernel_rfl
theorem methImpl (h : Value) (w : World) : (Go.method 344 147 (.agg #[h]) "Implements").run Tryz.prog w = .ok (170, .agg #[h]) w := by kernel_rfl
theorem methAssign (h : Value) (w : World) : (Go.method 344 147 (.agg #[h]) "AssignableTo").run Tryz.prog w = .ok (167, .agg #[h]) w := by kernel_rfl
/-- The entry for Set, laid open (as the guide's worked example has it). -/
theorem rls (v x : Value) : ReflectliteValue.set #[v, x] = (do
    let (some (dst, a, fl), some (src, b, _)) := (← ReflectliteValue.parts v, ← ReflectliteValue.parts x)
      | unsupported (.noEntry "extern/(internal/reflectlite.Value).Set.zeroValue")
    if fl / ReflectliteValue.flagAddr % 2 == 0 then unsupported (.noEntry "extern/(internal/reflectlite.Value).Set.unaddressable")
    let val ← loadVar src b
    if ← Rtype.directlyAssignable dst src then storeVar dst a val
    else if ← Rtype.implements dst src then
      if (← Rtype.kind src) == 20 then
        match val with
        | .nilIface => unsupported (.noEntry "extern/reflectlite: a nil value of one interface type handed on as a value of another")
        | _ => storeVar dst a val
      else storeVar dst a (.iface src val)
    else panicString ("reflectlite.Set: value of type " ++ (← Rtype.spelt src) ++ " is not assignable to type " ++ (← Rtype.spelt dst))
    pure (.tuple #[])) := rfl
theorem partsA (a : Addr) (w : World) : (ReflectliteValue.parts (.agg #[.pointer (some ⟨10, 62, none⟩), .pointer (some a), .int .u64 386])).run Tryz.prog w = .ok (some (62, a, 386)) w := by kernel_rfl
theorem partsE (a : Addr) (w : World) : (ReflectliteValue.parts (.agg #[.pointer (some ⟨10, 62, none⟩), .pointer (some a), .int .u64 130])).run Tryz.prog w = .ok (some (62, a, 130)) w := by kernel_rfl
theorem directE (w : World) : (Rtype.directlyAssignable 62 62).run Tryz.prog w = .ok true w := by kernel_rfl
theorem sizeE (w : World) : (sizeOf 62).run Tryz.prog w = .ok 1 w := by kernel_rfl
theorem setE (ta b : Addr) (n : Int) (old : Value) (W : World) (hb : W.cell? b = some (.int .i64 n)) (ht : W.cell? ta = some old) (hf : W.frozen? ta = false) :
    (ReflectliteValue.set #[.agg #[.pointer (some ⟨10, 62, none⟩), .pointer (some ta), .int .u64 386], .agg #[.pointer (some ⟨10, 62, none⟩), .pointer (some b), .int .u64 130]]).run Tryz.prog W
      = .ok (.tuple #[]) (W.setCell ta (.int .i64 n)) := by
  rw [rls]
  simp only [Sem.run_bind, partsA, partsE, Result.andThen]
  simp [ReflectliteValue.flagAddr, loadVar, isAgg, underlying, Tryz.underlying62, hb, Result.andThen, directE, storeVar, Value.cells, storeCells, Addr.add]
  rw [run_store Tryz.prog W ta _ _ (by rfl)]
  simp [ht, hf]
set_option maxRecDepth 100000 in
set_option maxHeartbeats 4000000 in
theorem as_low (n : Int) (t q : Addr) (old : Value) (w : World) (hq : w.cell? q = some (.pointer (some t))) (ht0 : w.cell? t = some old) (hf0 : w.frozen? t = false) :
    Calls Tryz.prog 65 #[.iface 62 (.int .i64 n), .iface 90 (.pointer (some t)), .agg #[.pointer (some ⟨10, 90, none⟩), .pointer (some q), .int .u64 150], .iface 147 (.agg #[.pointer (some ⟨10, 62, none⟩)])] w fun ev w' => ev = .returned (.bool true) ∧ w' = ((w.alloc (.cells #[.pointer (some ⟨10, 90, none⟩), .pointer (some q), .int .u64 150] 121)).alloc (.cells #[.int .i64 n] 62)).setCell t (.int .i64 n) := by
  have h1 := @run_callFunc_extern Tryz.prog 62 _ (fun args => ReflectliteValue.unpack (args.getD 0 (.tuple #[]))) Tryz.func62 (by kernel_rfl) (by kernel_rfl) (by kernel_rfl) (by kernel_rfl)
  have h2 := @run_callFunc_extern Tryz.prog 86 _ ReflectliteType.typeOf Tryz.func86 (by kernel_rfl) (by kernel_rfl) (by kernel_rfl) (by kernel_rfl)
  have h3 := @run_callFunc_extern Tryz.prog 167 _ (ReflectliteType.relation "AssignableTo" ReflectliteType.assignableTo) Tryz.func167 (by kernel_rfl) (by kernel_rfl) (by kernel_rfl) (by kernel_rfl)
  have h4 := @run_callFunc_extern Tryz.prog 87 _ (ReflectliteValue.method (ReflectliteValue.valueError "reflectlite.Value.Elem" 0) ReflectliteValue.elem) Tryz.func87 (by kernel_rfl) (by kernel_rfl) (by kernel_rfl) (by kernel_rfl)
  have h5 := @run_callFunc_extern Tryz.prog 88 _ ReflectliteValue.set Tryz.func88 (by kernel_rfl) (by kernel_rfl) (by kernel_rfl) (by kernel_rfl)
  have tO := typeOfE
  have mA := methAssign
  have aE := assignE
  have vE := valueOfE
  have hlt : t.block < w.heap.size := World.block_lt_of_cell? w t ht0
  have hlq : q.block < w.heap.size := World.block_lt_of_cell? w q hq
  have el := elemV q t (w.alloc (.cells #[.pointer (some ⟨10, 90, none⟩), .pointer (some q), .int .u64 150] 121)) (by rw [World.cell?_alloc_lt _ _ q hlq]; exact hq)
  have st := setE t ⟨w.heap.size + 1, 0, none⟩ n old ((w.alloc (.cells #[.pointer (some ⟨10, 90, none⟩), .pointer (some q), .int .u64 150] 121)).alloc (.cells #[.int .i64 n] 62))
    (by rw [World.cell?_alloc_at _ _ _ _ (by simp)]; rfl)
    (by rw [World.cell?_alloc_lt _ _ t (by simp; omega), World.cell?_alloc_lt _ _ t hlt]; exact ht0)
    (by rw [World.frozen?_alloc_old _ _ t (by simp; omega), World.frozen?_alloc_old _ _ t (Nat.ne_of_lt hlt)]; exact hf0)
  go_enter Tryz.func65, Tryz.ntmps65
  go_wp2
  refine wp_loop_rounds 1 ?_
  rw [rounds_succ]
  go_wp2
  go_ret
  exact ⟨rfl, rfl⟩
set_option maxRecDepth 100000 in
set_option maxHeartbeats 4000000 in
theorem as_hit (n : Int) (t : Addr) (old : Value) (w : World) (hg : w.cell? ⟨0, 0, none⟩ = some (.iface 147 (.agg #[.pointer (some ⟨10, 32, none⟩)]))) (ht0 : w.cell? t = some old) (hf0 : w.frozen? t = false) :
    Calls Tryz.prog 40 #[.iface 62 (.int .i64 n), .iface 90 (.pointer (some t))] w fun ev w' => ev = .returned (.bool true) ∧ w'.cell? t = some (.int .i64 n) ∧ Keep [t.block] w w' := by
  have h1 := @run_callFunc_extern Tryz.prog 62 _ (fun args => ReflectliteValue.unpack (args.getD 0 (.tuple #[]))) Tryz.func62 (by kernel_rfl) (by kernel_rfl) (by kernel_rfl) (by kernel_rfl)
  have h2 := @run_callFunc_extern Tryz.prog 63 _ (ReflectliteValue.methodAny (ReflectliteValue.valueError "reflectlite.Value.Type" 0) (fun t _ _ _ => ReflectliteType.toType t)) Tryz.func63 (by kernel_rfl) (by kernel_rfl) (by kernel_rfl) (by kernel_rfl)
  have h3 := @run_callFunc_extern Tryz.prog 64 _ (ReflectliteValue.method (ReflectliteValue.valueError "reflectlite.Value.IsNil" 0) ReflectliteValue.isNil) Tryz.func64 (by kernel_rfl) (by kernel_rfl) (by kernel_rfl) (by kernel_rfl)
  have h4 := @run_callFunc_extern Tryz.prog 157 _ (ReflectliteType.abiMethod fun t => do pure (.int .u8 (← Rtype.kind t))) Tryz.func157 (by kernel_rfl) (by kernel_rfl) (by kernel_rfl) (by kernel_rfl)
  have h5 := @run_callFunc_extern Tryz.prog 169 _ (ReflectliteType.method ReflectliteType.elem) Tryz.func169 (by kernel_rfl) (by kernel_rfl) (by kernel_rfl) (by kernel_rfl)
  have h6 := @run_callFunc_extern Tryz.prog 170 _ (ReflectliteType.relation "Implements" ReflectliteType.implements_) Tryz.func170 (by kernel_rfl) (by kernel_rfl) (by kernel_rfl) (by kernel_rfl)
  have vP := valueOfP
  have tP := typeP
  have mK := methKind
  have mE := methElem
  have mI := methImpl
  have kP := kindP
  have kE := kindE
  have eT := elemT
  have iE := implE
  have hlt : t.block < w.heap.size := World.block_lt_of_cell? w t ht0
  have hl0 : 0 < w.heap.size := World.block_lt_of_cell? w ⟨0, 0, none⟩ hg
  have n8 := isNilP ⟨w.heap.size, 0, none⟩ t ((w.alloc (.cells #[.pointer (some t)] 90)).alloc (.cells #[.pointer (some ⟨10, 90, none⟩), .pointer (some ⟨w.heap.size, 0, none⟩), .int .u64 150] 121)) (by simp)
  have hg2 : ((w.alloc (.cells #[.pointer (some t)] 90)).alloc (.cells #[.pointer (some ⟨10, 90, none⟩), .pointer (some ⟨w.heap.size, 0, none⟩), .int .u64 150] 121)).cell? ⟨0, 0, none⟩ = some (.iface 147 (.agg #[.pointer (some ⟨10, 32, none⟩)])) := by
    rw [World.cell?_alloc_lt _ _ ⟨0, 0, none⟩ (by simp), World.cell?_alloc_lt _ _ ⟨0, 0, none⟩ hl0]; exact hg
  have hL := as_low n t ⟨w.heap.size, 0, none⟩ old ((w.alloc (.cells #[.pointer (some t)] 90)).alloc (.cells #[.pointer (some ⟨10, 90, none⟩), .pointer (some ⟨w.heap.size, 0, none⟩), .int .u64 150] 121)) (by simp)
    (by rw [World.cell?_alloc_lt _ _ t (by simp; omega), World.cell?_alloc_lt _ _ t hlt]; exact ht0)
    (by rw [World.frozen?_alloc_old _ _ t (by simp; omega), World.frozen?_alloc_old _ _ t (Nat.ne_of_lt hlt)]; exact hf0)
  have HL := hid hL
  have HT0 := hid ht0
  clear hL
  go_enter Tryz.func40, Tryz.ntmps40
  go_wp2_with (first | (go_at_call 65; refine HL.out.mono ?_; rintro e w2 ⟨rfl, rfl⟩))
  go_ret
  refine ⟨rfl, ?_, ?_⟩
  · exact World.cell?_setCell_same _ _ _ (by rw [World.cell?_alloc_lt _ _ t (by simp; omega), World.cell?_alloc_lt _ _ t (by simp; omega), World.cell?_alloc_lt _ _ t (by simp; omega), World.cell?_alloc_lt _ _ t hlt]; exact HT0.out)
  · obtain ⟨tb, to_, ts⟩ := t
    obtain rfl : ts = none := by simpa using World.cell?_spot HT0.out
    exact (((((Keep.refl _ w).alloc _).alloc _).alloc _).alloc _).set _ _ _ (Or.inl (by simp))
set_option maxHeartbeats 800000 in
theorem tell_any (n : Int) (w : World) (hg : w.cell? ⟨0, 0, none⟩ = some (.iface 147 (.agg #[.pointer (some ⟨10, 32, none⟩)]))) :
    Calls Tryz.prog 19 #[.iface 62 (.int .i64 n)] w fun ev w' => ev = .returned (.int .i64 n) ∧ Below w.heap.size w w' := by
  have hl0 : 0 < w.heap.size := World.block_lt_of_cell? w ⟨0, 0, none⟩ hg
  have HA := hid (as_hit n ⟨w.heap.size, 0, none⟩ (.int .i64 0) (w.alloc (.cells #[.int .i64 0] 62)) (by rw [World.cell?_alloc_lt _ _ ⟨0, 0, none⟩ hl0]; exact hg) (by simp) (by simp))
  go_enter Tryz.func19, Tryz.ntmps19
  go_wp2_with (first | (go_at_call 40; refine HA.out.mono ?_; rintro e w2 ⟨rfl, c2, k2⟩))
  go_ret
  exact ⟨rfl, (((Keep.refl [] w).alloc _).then k2 (by simp)).below (by simp) (Nat.le_refl _)⟩
end Go.Proofs.YtfifbnopgpffkaaGreatDoor.Dk

namespace Go.Proofs.YtfifbnopgpffkaaGreatDoor.Dk
open Go.RowKit Go.Extern.Stop Go.Stop Go.Extern

theorem typeOfA (v : Value) (w : World) : (ReflectliteType.typeOf #[.iface 82 v]).run Tryz.prog w = .ok (.iface 147 (.agg #[.pointer (some ⟨10, 82, none⟩)])) w := by kernel_rfl
theorem assignA (w : World) : (ReflectliteType.relation "AssignableTo" ReflectliteType.assignableTo #[.agg #[.pointer (some ⟨10, 82, none⟩)], .iface 147 (.agg #[.pointer (some ⟨10, 62, none⟩)])]).run Tryz.prog w = .ok (.bool false) w := by kernel_rfl
theorem methUnwrap (v : Value) (w : World) : (Go.method 344 82 v "Unwrap").run Tryz.prog w = .ok (162, v) w := by kernel_rfl
set_option maxHeartbeats 400000 in
theorem unwrap_any (p : Nat) (n : Int) (w : World) (h : w.cell? ⟨p, 0, none⟩ = some (.int .i64 n)) : Calls Tryz.prog 162 #[.pointer (some ⟨p, 0, none⟩)] w fun e w' => e = .returned (.iface 62 (.int .i64 n)) ∧ w' = w := by
  go_enter Tryz.func162, Tryz.ntmps162
  go_wp2
  go_ret
  exact ⟨rfl, rfl⟩
set_option maxRecDepth 100000 in
set_option maxHeartbeats 4000000 in
theorem as_at (n : Int) (p : Nat) (t q : Addr) (old : Value) (w : World) (hp : w.cell? ⟨p, 0, none⟩ = some (.int .i64 n)) (hq : w.cell? q = some (.pointer (some t))) (ht0 : w.cell? t = some old) (hf0 : w.frozen? t = false) :
    Calls Tryz.prog 65 #[.iface 82 (.pointer (some ⟨p, 0, none⟩)), .iface 90 (.pointer (some t)), .agg #[.pointer (some ⟨10, 90, none⟩), .pointer (some q), .int .u64 150], .iface 147 (.agg #[.pointer (some ⟨10, 62, none⟩)])] w fun ev w' => ev = .returned (.bool true) ∧ w' = ((w.alloc (.cells #[.pointer (some ⟨10, 90, none⟩), .pointer (some q), .int .u64 150] 121)).alloc (.cells #[.int .i64 n] 62)).setCell t (.int .i64 n) := by
  have h1 := @run_callFunc_extern Tryz.prog 62 _ (fun args => ReflectliteValue.unpack (args.getD 0 (.tuple #[]))) Tryz.func62 (by kernel_rfl) (by kernel_rfl) (by kernel_rfl) (by kernel_rfl)
  have h2 := @run_callFunc_extern Tryz.prog 86 _ ReflectliteType.typeOf Tryz.func86 (by kernel_rfl) (by kernel_rfl) (by kernel_rfl) (by kernel_rfl)
  have h3 := @run_callFunc_extern Tryz.prog 167 _ (ReflectliteType.relation "AssignableTo" ReflectliteType.assignableTo) Tryz.func167 (by kernel_rfl) (by kernel_rfl) (by kernel_rfl) (by kernel_rfl)
  have h4 := @run_callFunc_extern Tryz.prog 87 _ (ReflectliteValue.method (ReflectliteValue.valueError "reflectlite.Value.Elem" 0) ReflectliteValue.elem) Tryz.func87 (by kernel_rfl) (by kernel_rfl) (by kernel_rfl) (by kernel_rfl)
  have h5 := @run_callFunc_extern Tryz.prog 88 _ ReflectliteValue.set Tryz.func88 (by kernel_rfl) (by kernel_rfl) (by kernel_rfl) (by kernel_rfl)
  have tO := typeOfE
  have mA := methAssign
  have aE := assignE
  have vE := valueOfE
  have hlt : t.block < w.heap.size := World.block_lt_of_cell? w t ht0
  have hlq : q.block < w.heap.size := World.block_lt_of_cell? w q hq
  have el := elemV q t (w.alloc (.cells #[.pointer (some ⟨10, 90, none⟩), .pointer (some q), .int .u64 150] 121)) (by rw [World.cell?_alloc_lt _ _ q hlq]; exact hq)
  have st := setE t ⟨w.heap.size + 1, 0, none⟩ n old ((w.alloc (.cells #[.pointer (some ⟨10, 90, none⟩), .pointer (some q), .int .u64 150] 121)).alloc (.cells #[.int .i64 n] 62))
    (by rw [World.cell?_alloc_at _ _ _ _ (by simp)]; rfl)
    (by rw [World.cell?_alloc_lt _ _ t (by simp; omega), World.cell?_alloc_lt _ _ t hlt]; exact ht0)
    (by rw [World.frozen?_alloc_old _ _ t (by simp; omega), World.frozen?_alloc_old _ _ t (Nat.ne_of_lt hlt)]; exact hf0)
  have tO2 := typeOfA
  have aE2 := assignA
  have mU := methUnwrap
  have hp1 : (w.alloc (.cells #[.pointer (some ⟨10, 90, none⟩), .pointer (some q), .int .u64 150] 121)).cell? ⟨p, 0, none⟩ = some (.int .i64 n) := by rw [World.cell?_alloc_lt _ _ ⟨p, 0, none⟩ (World.block_lt_of_cell? w ⟨p, 0, none⟩ hp)]; exact hp
  have HU := hid (unwrap_any p n _ hp1)
  have hta1 : ∀ (v : Value) (W : World), (Instr.typeAssert (.iface 82 v) 32 152 true).run Tryz.prog W = .ok (.tuple #[.nilIface, .bool false]) W := fun v W => run_typeAssert_lacksB Tryz.underlying152 (by kernel_rfl) (by kernel_rfl) v 32 W
  have hta2 : ∀ (v : Value) (W : World), (Instr.typeAssert (.iface 82 v) 32 155 true).run Tryz.prog W = .ok (.tuple #[.iface 82 v, .bool true]) W := fun v W => by kernel_rfl
  go_enter Tryz.func65, Tryz.ntmps65
  go_wp2
  refine wp_loop_rounds 2 ?_
  rw [rounds_succ]
  go_wp2_with (first | (go_at_call 162; refine HU.out.mono ?_; rintro e9 w9 ⟨rfl, rfl⟩))
  rw [rounds_succ]
  go_wp2
  go_ret
  exact ⟨rfl, rfl⟩
end Go.Proofs.YtfifbnopgpffkaaGreatDoor.Dk

namespace Go.Proofs.YtfifbnopgpffkaaGreatDoor.Dk
open Go.RowKit Go.Extern.Stop Go.Stop Go.Extern

set_option maxRecDepth 100000 in
set_option maxHeartbeats 4000000 in
theorem as_hitA (n : Int) (p : Nat) (t : Addr) (old : Value) (w : World) (hp : w.cell? ⟨p, 0, none⟩ = some (.int .i64 n)) (hg : w.cell? ⟨0, 0, none⟩ = some (.iface 147 (.agg #[.pointer (some ⟨10, 32, none⟩)]))) (ht0 : w.cell? t = some old) (hf0 : w.frozen? t = false) :
    Calls Tryz.prog 40 #[.iface 82 (.pointer (some ⟨p, 0, none⟩)), .iface 90 (.pointer (some t))] w fun ev w' => ev = .returned (.bool true) ∧ w'.cell? t = some (.int .i64 n) ∧ Keep [t.block] w w' := by
  have h1 := @run_callFunc_extern Tryz.prog 62 _ (fun args => ReflectliteValue.unpack (args.getD 0 (.tuple #[]))) Tryz.func62 (by kernel_rfl) (by kernel_rfl) (by kernel_rfl) (by kernel_rfl)
  have h2 := @run_callFunc_extern Tryz.prog 63 _ (ReflectliteValue.methodAny (ReflectliteValue.valueError "reflectlite.Value.Type" 0) (fun t _ _ _ => ReflectliteType.toType t)) Tryz.func63 (by kernel_rfl) (by kernel_rfl) (by kernel_rfl) (by kernel_rfl)
  have h3 := @run_callFunc_extern Tryz.prog 64 _ (ReflectliteValue.method (ReflectliteValue.valueError "reflectlite.Value.IsNil" 0) ReflectliteValue.isNil) Tryz.func64 (by kernel_rfl) (by kernel_rfl) (by kernel_rfl) (by kernel_rfl)
  have h4 := @run_callFunc_extern Tryz.prog 157 _ (ReflectliteType.abiMethod fun t => do pure (.int .u8 (← Rtype.kind t))) Tryz.func157 (by kernel_rfl) (by kernel_rfl) (by kernel_rfl) (by kernel_rfl)
  have h5 := @run_callFunc_extern Tryz.prog 169 _ (ReflectliteType.method ReflectliteType.elem) Tryz.func169 (by kernel_rfl) (by kernel_rfl) (by kernel_rfl) (by kernel_rfl)
  have h6 := @run_callFunc_extern Tryz.prog 170 _ (ReflectliteType.relation "Implements" ReflectliteType.implements_) Tryz.func170 (by kernel_rfl) (by kernel_rfl) (by kernel_rfl) (by kernel_rfl)
  have vP := valueOfP
  have tP := typeP
  have mK := methKind
  have mE := methElem
  have mI := methImpl
  have kP := kindP
  have kE := kindE
  have eT := elemT
  have iE := implE
  have hlt : t.block < w.heap.size := World.block_lt_of_cell? w t ht0
  have hl0 : 0 < w.heap.size := World.block_lt_of_cell? w ⟨0, 0, none⟩ hg
  have n8 := isNilP ⟨w.heap.size, 0, none⟩ t ((w.alloc (.cells #[.pointer (some t)] 90)).alloc (.cells #[.pointer (some ⟨10, 90, none⟩), .pointer (some ⟨w.heap.size, 0, none⟩), .int .u64 150] 121)) (by simp)
  have hg2 : ((w.alloc (.cells #[.pointer (some t)] 90)).alloc (.cells #[.pointer (some ⟨10, 90, none⟩), .pointer (some ⟨w.heap.size, 0, none⟩), .int .u64 150] 121)).cell? ⟨0, 0, none⟩ = some (.iface 147 (.agg #[.pointer (some ⟨10, 32, none⟩)])) := by
    rw [World.cell?_alloc_lt _ _ ⟨0, 0, none⟩ (by simp), World.cell?_alloc_lt _ _ ⟨0, 0, none⟩ hl0]; exact hg
  have hlp : p < w.heap.size := World.block_lt_of_cell? w ⟨p, 0, none⟩ hp
  have hL := as_at n p t ⟨w.heap.size, 0, none⟩ old ((w.alloc (.cells #[.pointer (some t)] 90)).alloc (.cells #[.pointer (some ⟨10, 90, none⟩), .pointer (some ⟨w.heap.size, 0, none⟩), .int .u64 150] 121)) (by rw [World.cell?_alloc_lt _ _ ⟨p, 0, none⟩ (by simp; omega), World.cell?_alloc_lt _ _ ⟨p, 0, none⟩ hlp]; exact hp) (by simp)
    (by rw [World.cell?_alloc_lt _ _ t (by simp; omega), World.cell?_alloc_lt _ _ t hlt]; exact ht0)
    (by rw [World.frozen?_alloc_old _ _ t (by simp; omega), World.frozen?_alloc_old _ _ t (Nat.ne_of_lt hlt)]; exact hf0)
  have HL := hid hL
  have HT0 := hid ht0
  clear hL
  go_enter Tryz.func40, Tryz.ntmps40
  go_wp2_with (first | (go_at_call 65; refine HL.out.mono ?_; rintro e w2 ⟨rfl, rfl⟩))
  go_ret
  refine ⟨rfl, ?_, ?_⟩
  · exact World.cell?_setCell_same _ _ _ (by rw [World.cell?_alloc_lt _ _ t (by simp; omega), World.cell?_alloc_lt _ _ t (by simp; omega), World.cell?_alloc_lt _ _ t (by simp; omega), World.cell?_alloc_lt _ _ t hlt]; exact HT0.out)
  · obtain ⟨tb, to_, ts⟩ := t
    obtain rfl : ts = none := by simpa using World.cell?_spot HT0.out
    exact (((((Keep.refl _ w).alloc _).alloc _).alloc _).alloc _).set _ _ _ (Or.inl (by simp))
set_option maxHeartbeats 800000 in
theorem tellA_any (n : Int) (p : Nat) (w : World) (hp : w.cell? ⟨p, 0, none⟩ = some (.int .i64 n)) (hg : w.cell? ⟨0, 0, none⟩ = some (.iface 147 (.agg #[.pointer (some ⟨10, 32, none⟩)]))) :
    Calls Tryz.prog 19 #[.iface 82 (.pointer (some ⟨p, 0, none⟩))] w fun ev w' => ev = .returned (.int .i64 n) ∧ Below w.heap.size w w' := by
  have hl0 : 0 < w.heap.size := World.block_lt_of_cell? w ⟨0, 0, none⟩ hg
  have HA := hid (as_hitA n p ⟨w.heap.size, 0, none⟩ (.int .i64 0) (w.alloc (.cells #[.int .i64 0] 62)) (by rw [World.cell?_alloc_lt _ _ ⟨p, 0, none⟩ (World.block_lt_of_cell? w ⟨p, 0, none⟩ hp)]; exact hp) (by rw [World.cell?_alloc_lt _ _ ⟨0, 0, none⟩ hl0]; exact hg) (by simp) (by simp))
  go_enter Tryz.func19, Tryz.ntmps19
  go_wp2_with (first | (go_at_call 40; refine HA.out.mono ?_; rintro e w2 ⟨rfl, c2, k2⟩))
  go_ret
  exact ⟨rfl, (((Keep.refl [] w).alloc _).then k2 (by simp)).below (by simp) (Nat.le_refl _)⟩
end Go.Proofs.YtfifbnopgpffkaaGreatDoor.Dk

