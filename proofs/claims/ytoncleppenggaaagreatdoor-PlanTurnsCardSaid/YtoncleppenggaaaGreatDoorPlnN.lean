import Derived.Test.YtoncleppenggaaaGreatDoorProg
import Derived.WalkKit
import Derived.Maps.OwnOps
import Derived.Maps.Views
import Derived.Maps.RangeWalk
import Derived.Maps.Keyed
import Derived.Test.YtoncleppenggaaaGreatDoorPlnM
import Derived.Maps.OwnSet
set_option linter.unusedSimpArgs false
set_option linter.unusedVariables false
namespace Go.Proofs.YtoncleppenggaaaGreatDoor.Dk
open Go.RowKit Go.Maps

/-- An element, as it lies there. -/
def Rv (v : Value) : Option (DataW Value × List MemPlace) := some (.held v, [])
def Sees (D : DataW Value) (m : Lit → Option Value) : Prop := IsMap D ∧ ∀ kl, has D kl = (m kl).isSome ∧ ∀ z, D.atKey kl z = (match m kl with | some v => .held v | none => z)
/-- A map of the call's own: which element lies at which key. -/
def MapIs (w : World) (k : TypeId) (b n : Nat) (m : Lit → Option Value) : Prop := ∃ D : DataW Value, w.ownsMap Tryz.prog k Rv b n D ∧ Sees D m
open Classical in
noncomputable def putM (m : Lit → Option Value) (kl : Lit) (v : Value) : Lit → Option Value := fun x => if x = kl then some v else m x
theorem putM_at (m : Lit → Option Value) (kl : Lit) (v : Value) : putM m kl v kl = some v := by simp [putM]
theorem putM_off (m : Lit → Option Value) {kl x : Lit} (v : Value) (h : x ≠ kl) : putM m kl v x = m x := by simp [putM, h]
theorem Sees.put {D : DataW Value} {m : Lit → Option Value} (h : Sees D m) {kl : Lit} (hk : WideAt.IsKeyLit kl) (v : Value) : Sees (D.put kl (.held v)) (putM m kl v) := by
  refine ⟨h.1.put _ _, fun x => ?_⟩
  by_cases e : x = kl
  · subst e
    rw [putM_at]
    exact ⟨has_put_same h.1 hk _, fun z => atKey_put_same h.1 hk _ z⟩
  · rw [putM_off m v e]
    exact ⟨(has_put_other e _).trans (h.2 x).1, fun z => (atKey_put_other e _ z).trans ((h.2 x).2 z)⟩
theorem MapIs.made (w : World) (k : TypeId) : MapIs (w.alloc (.map #[] 0)) k w.heap.size 0 (fun _ => none) := ⟨.map [], World.ownsMap_made w _ k Rv, isMap_empty, fun kl => ⟨rfl, fun z => rfl⟩⟩
theorem MapIs.kept {w w' : World} {k : TypeId} {b n : Nat} {m : Lit → Option Value} {row : Option Nat} (h : MapIs w k b n m) (hg : w.grownBy w' row) (hne : some b ≠ row) : MapIs w' k b n m := by
  obtain ⟨D, h1, h2⟩ := h
  exact ⟨D, h1.kept hg hne, h2⟩
theorem MapIs.block {w w' : World} {k : TypeId} {b n : Nat} {m : Lit → Option Value} (h : MapIs w k b n m) (hb : w'.heap[b]? = w.heap[b]?) : MapIs w' k b n m := by
  obtain ⟨D, ⟨es, c, h1, h2⟩, h3⟩ := h
  exact ⟨D, ⟨es, c, hb.trans h1, h2⟩, h3⟩
theorem MapIs.lt {w : World} {k : TypeId} {b n : Nat} {m : Lit → Option Value} (h : MapIs w k b n m) : b < w.heap.size := by
  obtain ⟨D, h1, h2⟩ := h
  exact h1.lt
theorem MapIs.mono {w : World} {k : TypeId} {b n n' : Nat} {m : Lit → Option Value} (h : MapIs w k b n m) (hn : n ≤ n') : MapIs w k b n' m := by
  obtain ⟨D, h1, h2⟩ := h
  exact ⟨D, h1.mono hn, h2⟩
theorem MapIs.look {w : World} {k t e : TypeId} {b n : Nat} {m : Lit → Option Value} (h : MapIs w k b n m) (K : Keyed Tryz.prog k) (ht : Tryz.prog.underlying t = some (.map k e)) {z : Value} (hz : (zeroValue e).run Tryz.prog w = .ok z w) {key : Value} {kl : Lit} (hkey : keyOf Tryz.prog k key = some kl) (c : Bool) :
    (Instr.lookup t (.map (some b)) key c).run Tryz.prog w = .ok (if c then .tuple #[(m kl).getD z, .bool (m kl).isSome] else (m kl).getD z) w := by
  obtain ⟨D, ⟨es, clock, hb, F, -, rfl⟩, hs⟩ := h
  have h2 := (hs.2 kl).2
  rcases fit_look c K ht hz hb F hkey with ⟨hrun, -, hat⟩ | ⟨e0, y, -, -, hrun, hR, hat, -⟩
  · have : m kl = none := by
      cases hm : m kl with
      | none => rfl
      | some v =>
        have q1 := (hat (.held (.bool true))).symm.trans (h2 _)
        have q2 := (hat (.held (.bool false))).symm.trans (h2 _)
        rw [hm] at q1 q2
        have := q1.trans q2.symm
        simp at this
    rw [hrun, this]
    rfl
  · have hy : y = (.held e0.val, []) := (Option.some.inj hR).symm
    have : m kl = some e0.val := by
      cases hm : m kl with
      | none =>
        have q1 := (hat (.held (.bool true))).symm.trans (h2 _)
        have q2 := (hat (.held (.bool false))).symm.trans (h2 _)
        rw [hm] at q1 q2
        have := q1.symm.trans q2
        simp at this
      | some v =>
        have q1 := (hat (.held (.bool true))).symm.trans (h2 _)
        rw [hm, hy] at q1
        simp at q1
        rw [q1]
    rw [hrun, this]
    rfl
theorem MapIs.put {w : World} {k t e : TypeId} {b n : Nat} {m : Lit → Option Value} (h : MapIs w k b n m) (K : Keyed Tryz.prog k) (ht : Tryz.prog.underlying t = some (.map k e)) (hn : n < maxLen) {key : Value} {kl : Lit} (hkey : keyOf Tryz.prog k key = some kl) (v : Value) :
    ∃ w', (Instr.mapUpdate t (.map (some b)) key v).run Tryz.prog w = .ok () w' ∧ MapIs w' k b (n + 1) (putM m kl v) ∧ w.grownBy w' (some b) ∧ w'.heap.size = w.heap.size := by
  obtain ⟨D, h1, hs⟩ := h
  have h1' := h1
  obtain ⟨es, clock, hb, F, hsz, rfl⟩ := h1
  obtain ⟨es', clock', hrun, -⟩ := fit_store (R' := Rv) K ht hb F (Nat.lt_of_le_of_lt hsz hn) (fun _ _ _ _ hz => hz) hkey (show Rv v = some (.held v, []) from rfl)
  obtain ⟨w', q1, q2, q3⟩ := h1'.update K ht hn hkey (show Rv v = some (.held v, []) from rfl)
  refine ⟨w', q1, ⟨_, q2, hs.put (K.key hkey) v⟩, q3, ?_⟩
  have e := (Result.ok.inj (hrun.symm.trans q1)).2
  have e2 := congrArg (fun (V : World) => V.heap.size) e
  exact e2.symm.trans (Array.size_setIfInBounds ..)
theorem int_key {k : TypeId} (hk : Tryz.prog.underlying k = some (.int .i64)) (n : Nat) (h : n ≤ 1000000) : keyOf Tryz.prog k (.int .i64 (n : Int)) = some (.int .i64 (n : Int)) := by
  have hw : (Lit.int .i64 (n : Int)).wf = true := by
    have h1 : (-9223372036854775808 : Int) ≤ (n : Int) := by omega
    have h2 : (n : Int) ≤ 9223372036854775807 := by omega
    simp [Lit.wf, IntKind.min, IntKind.max, IntKind.signed, IntKind.bits, h1, h2]
  simp [keyOf, hk, mapKey, hw]
theorem str_key {k : TypeId} (hk : Tryz.prog.underlying k = some .string) (s : ByteArray) (h : s.size ≤ maxLen) : keyOf Tryz.prog k (.string s) = some (.string s.data.toList) := by
  simp [keyOf, hk, mapKey, h]
end Go.Proofs.YtoncleppenggaaaGreatDoor.Dk

namespace Go.Proofs.YtoncleppenggaaaGreatDoor.Pl
open Go.RowKit Go.Maps
open Fw (By FJob Flw ba strV encL zeroJ)

/-- Names and what lies there. -/
abbrev AM := List (By × Value)
def lookA (A : AM) (n : By) : Option Value := (A.find? fun x => x.1 == n).map (·.2)
def mvOf (A : AM) : Lit → Option Value
  | .string s => lookA A s
  | _ => none
abbrev keysA (A : AM) : List By := A.map (·.1)
theorem lookA_none {A : AM} {n : By} (h : n ∉ keysA A) : lookA A n = none := by
  unfold lookA
  rw [List.find?_eq_none.2 (fun x hx => by
    intro q
    exact h (List.mem_map.2 ⟨x, hx, by simpa using q⟩))]
  rfl
theorem mvOf_snoc {A : AM} {n : By} {v : Value} (h : n ∉ keysA A) : Dk.putM (mvOf A) (.string n) v = mvOf (A ++ [(n, v)]) := by
  funext l
  by_cases e : l = .string n
  · subst e
    rw [Dk.putM_at]
    show some v = lookA (A ++ [(n, v)]) n
    have h0 := lookA_none h
    unfold lookA at h0 ⊢
    rw [List.find?_append]
    cases hf : A.find? fun x => x.1 == n with
    | none => simp
    | some x => rw [hf] at h0; cases h0
  · rw [Dk.putM_off _ _ e]
    cases l with
    | string s =>
      have hs : s ≠ n := fun q => e (by rw [q])
      show lookA A s = lookA (A ++ [(n, v)]) s
      unfold lookA
      rw [List.find?_append]
      cases hf : A.find? fun x => x.1 == s with
      | none =>
        have hne : ¬ n = s := fun q => hs q.symm
        simp [hne]
      | some x => rfl
    | _ => rfl
/-- A map of columns, of the call's own. -/
structure MapC (w : World) (b : Nat) (A : AM) : Prop where
  is : ∃ D : DataW Value, w.ownsMap Tryz.prog 9 Dk.Rv b A.length D ∧ Dk.Sees D (mvOf A) ∧ Maps.size D = A.length
  nd : (keysA A).Nodup
theorem keyedS : Keyed Tryz.prog 9 := string_keyed Tryz.underlying9
theorem MapC.mapIs {w : World} {b : Nat} {A : AM} (h : MapC w b A) : Dk.MapIs w 9 b A.length (mvOf A) := by
  obtain ⟨D, h1, h2, -⟩ := h.is
  exact ⟨D, h1, h2⟩
theorem MapC.made (w : World) : MapC (w.alloc (.map #[] 0)) w.heap.size [] := ⟨⟨.map [], World.ownsMap_made w _ _ Dk.Rv, ⟨isMap_empty, fun kl => by cases kl <;> exact ⟨rfl, fun z => rfl⟩⟩, rfl⟩, by simp⟩
theorem MapC.lt {w : World} {b : Nat} {A : AM} (h : MapC w b A) : b < w.heap.size := h.mapIs.lt
theorem MapC.block {w w' : World} {b : Nat} {A : AM} (h : MapC w b A) (hb : w'.heap[b]? = w.heap[b]?) : MapC w' b A := by
  obtain ⟨⟨D, ⟨es, c, h1, h2⟩, h3⟩, h4⟩ := h
  exact ⟨⟨D, ⟨es, c, hb.trans h1, h2⟩, h3⟩, h4⟩
theorem MapC.below {w w' : World} {b : Nat} {A : AM} (h : MapC w b A) (hb : Below w.heap.size w w') : MapC w' b A := h.block (hb.block b h.lt)
theorem MapC.obj {w : World} {b : Nat} {A : AM} (h : MapC w b A) : ∃ es c, w.heap[b]? = some (.map es c) := by
  obtain ⟨D, ⟨es, c, h1, -⟩, -⟩ := h.is
  exact ⟨es, c, h1⟩
theorem MapC.put {w : World} {b : Nat} {A : AM} {n : By} (h : MapC w b A) (hn : n ∉ keysA A) (hl : A.length < 1000000) (hs : n.length ≤ 1000) (v : Value) :
    ∃ w', (Instr.mapUpdate 30 (.map (some b)) (.string (ba n)) v).run Tryz.prog w = .ok () w' ∧ MapC w' b (A ++ [(n, v)]) ∧ w.grownBy w' (some b) ∧ w'.heap.size = w.heap.size := by
  obtain ⟨D, h1, h2, h3⟩ := h.is
  have hkey : keyOf Tryz.prog 9 (.string (ba n)) = some (.string n) := Dk.str_key Tryz.underlying9 (ba n) (Nat.le_trans hs (by decide))
  obtain ⟨w1, hr1, -, hg1, hz1⟩ := (show Dk.MapIs w 9 b A.length (mvOf A) from ⟨D, h1, h2⟩).put keyedS Tryz.underlying30 (Nat.lt_of_lt_of_le hl (by decide)) hkey v
  obtain ⟨w', q1, q2, q3⟩ := h1.update (val := v) keyedS Tryz.underlying30 (Nat.lt_of_lt_of_le hl (by decide)) hkey (show Dk.Rv v = some (.held v, []) from rfl)
  have e := (Result.ok.inj (hr1.symm.trans q1)).2
  subst e
  refine ⟨w1, hr1, ⟨⟨D.put (.string n) (.held v), ?_, ?_, ?_⟩, ?_⟩, hg1, hz1⟩
  · rw [List.length_append]; exact q2
  · rw [← mvOf_snoc hn]; exact h2.put (keyedS.key hkey) v
  · obtain ⟨es, rfl, hap, -⟩ := h1.entries keyedS
    rw [size_put ⟨es, rfl, hap⟩, List.length_append, List.length_singleton]
    have : has (DataW.map es) (.string n) = false := by
      rw [(h2.2 (.string n)).1]
      show (lookA A n).isSome = false
      rw [lookA_none hn]; rfl
    rw [this, h3]
    rfl
  · rw [keysA, List.map_append]
    exact nodup_snoc h.nd hn
theorem MapC.look {w : World} {b : Nat} {A : AM} (h : MapC w b A) (n : By) (hs : n.length ≤ 1000) (c : Bool) :
    (Instr.lookup 30 (.map (some b)) (.string (ba n)) c).run Tryz.prog w = .ok (if c then .tuple #[(lookA A n).getD (.slice none 0 0), .bool (lookA A n).isSome] else (lookA A n).getD (.slice none 0 0)) w := by
  have hkey : keyOf Tryz.prog 9 (.string (ba n)) = some (.string n) := Dk.str_key Tryz.underlying9 (ba n) (Nat.le_trans hs (by decide))
  exact h.mapIs.look keyedS Tryz.underlying30 (z := .slice none 0 0) (by kernel_rfl) hkey c
theorem MapC.len {w : World} {b : Nat} {A : AM} (h : MapC w b A) (ty : TypeId) : (Builtin.len_ #[30] ty #[.map (some b)]).run Tryz.prog w = .ok (.int .i64 (A.length : Nat)) w := by
  obtain ⟨D, h1, h2, h3⟩ := h.is
  rw [← h3]
  exact h1.len Tryz.underlying30 ty
/-- What lies in a map is columns. -/
def Holds2 (w : World) : AM → CM → Prop
  | [], [] => True
  | a :: A, c :: m => (a.1 = c.1 ∧ ColV w a.2 c.2) ∧ Holds2 w A m
  | _, _ => False
theorem Holds2.imp {w w' : World} {A : AM} {m : CM} (h : Holds2 w A m) (hm : ∀ c ∈ m, CsOK c.2) (hi : ∀ u cs, CsOK cs → ColV w u cs → ColV w' u cs) : Holds2 w' A m := by
  induction A generalizing m with
  | nil => cases m with
    | nil => trivial
    | cons c m => exact h.elim
  | cons a A ih => cases m with
    | nil => exact h.elim
    | cons c m => exact ⟨⟨h.1.1, hi _ _ (hm c (by simp)) h.1.2⟩, ih h.2 (fun x hx => hm x (by simp [hx]))⟩
theorem Holds2.keys {w : World} {A : AM} {m : CM} (h : Holds2 w A m) : keysA A = keysM m := by
  induction A generalizing m with
  | nil => cases m with
    | nil => rfl
    | cons c m => exact h.elim
  | cons a A ih => cases m with
    | nil => exact h.elim
    | cons c m => simp only [keysA, keysM, List.map_cons]; rw [h.1.1]; congr 1; exact ih h.2
theorem Holds2.snoc {w : World} {A : AM} {m : CM} {n : By} {u : Value} {cs : Cs} (h : Holds2 w A m) (hu : ColV w u cs) : Holds2 w (A ++ [(n, u)]) (m ++ [(n, cs)]) := by
  induction A generalizing m with
  | nil => cases m with
    | nil => exact ⟨⟨rfl, hu⟩, trivial⟩
    | cons c m => exact h.elim
  | cons a A ih => cases m with
    | nil => exact h.elim
    | cons c m => exact ⟨h.1, ih h.2⟩
theorem Holds2.look {w : World} {A : AM} {m : CM} (h : Holds2 w A m) {n : By} (hn : n ∈ keysM m) : ∃ u cs, lookA A n = some u ∧ lookM m n = some cs ∧ ColV w u cs ∧ (n, cs) ∈ m := by
  induction A generalizing m with
  | nil => cases m with
    | nil => cases hn
    | cons c m => exact h.elim
  | cons a A ih => cases m with
    | nil => exact h.elim
    | cons c m =>
      unfold lookA lookM
      by_cases e : c.1 = n
      · refine ⟨a.2, c.2, by simp [h.1.1, e], by simp [e], h.1.2, by rw [← e]; simp⟩
      · obtain ⟨u, cs, h1, h2, h3, h4⟩ := ih h.2 ((List.mem_cons.1 hn).resolve_left (fun q => e q.symm))
        refine ⟨u, cs, ?_, ?_, h3, by simp [h4]⟩
        · rw [List.find?_cons_of_neg (by simp [h.1.1, e])]; exact h1
        · rw [List.find?_cons_of_neg (by simp [e])]; exact h2
/-- Columns are no map. -/
theorem ColV.put {w w' : World} {u : Value} {cs : Cs} {b : Nat} (h : ColV w u cs) (hk : CsOK cs) (hb : ∃ es c, w.heap[b]? = some (.map es c)) (hg : w.grownBy w' (some b)) : ColV w' u cs := by
  obtain ⟨k, o, c, h1, h2, h3, h4⟩ := h
  have hne : k ≠ b := by
    rintro rfl
    obtain ⟨es, cl, hm⟩ := hb
    have := (h4 0 hk.1).1
    simp [World.cell?, hm] at this
  refine ⟨k, o, c, h1, h2, Nat.lt_of_lt_of_le h3 hg.size, fun j hj => ?_⟩
  have hbk := hg.block k h3 (by intro e; injection e with e; exact hne e)
  exact ⟨(World.cell?_of_block hbk).trans (h4 j hj).1, (World.cell?_of_block hbk).trans (h4 j hj).2⟩
end Go.Proofs.YtoncleppenggaaaGreatDoor.Pl

