import Derived.Test.YtemcpjflpggaeaaDoorProg
import Derived.WalkKit
import Derived.Maps.OwnOps
import Derived.Maps.Views
import Derived.Maps.RangeWalk
import Derived.Maps.Keyed
set_option linter.unusedSimpArgs false
set_option linter.unusedVariables false
namespace Go.Proofs.YtemcpjflpggaeaaDoor.Dk
open Go.RowKit Go.Maps

/-- An element, as it lies there. -/
def Rv (v : Value) : Option (DataW Value × List MemPlace) := some (.held v, [])
def Sees (D : DataW Value) (m : Lit → Option Value) : Prop := IsMap D ∧ ∀ kl, has D kl = (m kl).isSome ∧ ∀ z, D.atKey kl z = (match m kl with | some v => .held v | none => z)
/-- A map of the call's own: which element lies at which key. -/
def MapIs (w : World) (k : TypeId) (b n : Nat) (m : Lit → Option Value) : Prop := ∃ D : DataW Value, w.ownsMap Tryd.prog k Rv b n D ∧ Sees D m
open Classical in
noncomputable def putM (m : Lit → Option Value) (kl : Lit) (v : Value) : Lit → Option Value := fun x => if x = kl then some v else m x
theorem putM_at (m : Lit → Option Value) (kl : Lit) (v : Value) : putM m kl v kl = some v := by simp [putM]
theorem putM_off (m : Lit → Option Value) {kl x : Lit} (v : Value) (h : x ≠ kl) : putM m kl v x = m x := by simp [putM, h]
theorem Sees.put {D : DataW Value} {m : Lit → Option Value} (h : Sees D m) {kl : Lit} (hk : WideAt.IsKeyLit kl) (v : Value) : Sees (D.put kl (.held v)) (putM m kl v) := by
  refine ⟨h.1.put _ _, fun x => ?_⟩
  by_cases e : x = kl
  · subst e
    rw [putM_at]
    exact ⟨has_put_same h.1 hk _, fun z => atKey_put_same h.1 hk _ z⟩
  · rw [putM_off m v e]
    exact ⟨(has_put_other e _).trans (h.2 x).1, fun z => (atKey_put_other e _ z).trans ((h.2 x).2 z)⟩
theorem MapIs.made (w : World) (k : TypeId) : MapIs (w.alloc (.map #[] 0)) k w.heap.size 0 (fun _ => none) := ⟨.map [], World.ownsMap_made w _ k Rv, isMap_empty, fun kl => ⟨rfl, fun z => rfl⟩⟩
theorem MapIs.kept {w w' : World} {k : TypeId} {b n : Nat} {m : Lit → Option Value} {row : Option Nat} (h : MapIs w k b n m) (hg : w.grownBy w' row) (hne : some b ≠ row) : MapIs w' k b n m := by
  obtain ⟨D, h1, h2⟩ := h
  exact ⟨D, h1.kept hg hne, h2⟩
theorem MapIs.block {w w' : World} {k : TypeId} {b n : Nat} {m : Lit → Option Value} (h : MapIs w k b n m) (hb : w'.heap[b]? = w.heap[b]?) : MapIs w' k b n m := by
  obtain ⟨D, ⟨es, c, h1, h2⟩, h3⟩ := h
  exact ⟨D, ⟨es, c, hb.trans h1, h2⟩, h3⟩
theorem MapIs.lt {w : World} {k : TypeId} {b n : Nat} {m : Lit → Option Value} (h : MapIs w k b n m) : b < w.heap.size := by
  obtain ⟨D, h1, h2⟩ := h
  exact h1.lt
theorem MapIs.mono {w : World} {k : TypeId} {b n n' : Nat} {m : Lit → Option Value} (h : MapIs w k b n m) (hn : n ≤ n') : MapIs w k b n' m := by
  obtain ⟨D, h1, h2⟩ := h
  exact ⟨D, h1.mono hn, h2⟩
theorem MapIs.look {w : World} {k t e : TypeId} {b n : Nat} {m : Lit → Option Value} (h : MapIs w k b n m) (K : Keyed Tryd.prog k) (ht : Tryd.prog.underlying t = some (.map k e)) {z : Value} (hz : (zeroValue e).run Tryd.prog w = .ok z w) {key : Value} {kl : Lit} (hkey : keyOf Tryd.prog k key = some kl) (c : Bool) :
    (Instr.lookup t (.map (some b)) key c).run Tryd.prog w = .ok (if c then .tuple #[(m kl).getD z, .bool (m kl).isSome] else (m kl).getD z) w := by
  obtain ⟨D, ⟨es, clock, hb, F, -, rfl⟩, hs⟩ := h
  have h2 := (hs.2 kl).2
  rcases fit_look c K ht hz hb F hkey with ⟨hrun, -, hat⟩ | ⟨e0, y, -, -, hrun, hR, hat, -⟩
  · have : m kl = none := by
      cases hm : m kl with
      | none => rfl
      | some v =>
        have q1 := (hat (.held (.bool true))).symm.trans (h2 _)
        have q2 := (hat (.held (.bool false))).symm.trans (h2 _)
        rw [hm] at q1 q2
        have := q1.trans q2.symm
        simp at this
    rw [hrun, this]
    rfl
  · have hy : y = (.held e0.val, []) := (Option.some.inj hR).symm
    have : m kl = some e0.val := by
      cases hm : m kl with
      | none =>
        have q1 := (hat (.held (.bool true))).symm.trans (h2 _)
        have q2 := (hat (.held (.bool false))).symm.trans (h2 _)
        rw [hm] at q1 q2
        have := q1.symm.trans q2
        simp at this
      | some v =>
        have q1 := (hat (.held (.bool true))).symm.trans (h2 _)
        rw [hm, hy] at q1
        simp at q1
        rw [q1]
    rw [hrun, this]
    rfl
theorem MapIs.put {w : World} {k t e : TypeId} {b n : Nat} {m : Lit → Option Value} (h : MapIs w k b n m) (K : Keyed Tryd.prog k) (ht : Tryd.prog.underlying t = some (.map k e)) (hn : n < maxLen) {key : Value} {kl : Lit} (hkey : keyOf Tryd.prog k key = some kl) (v : Value) :
    ∃ w', (Instr.mapUpdate t (.map (some b)) key v).run Tryd.prog w = .ok () w' ∧ MapIs w' k b (n + 1) (putM m kl v) ∧ w.grownBy w' (some b) ∧ w'.heap.size = w.heap.size := by
  obtain ⟨D, h1, hs⟩ := h
  have h1' := h1
  obtain ⟨es, clock, hb, F, hsz, rfl⟩ := h1
  obtain ⟨es', clock', hrun, -⟩ := fit_store (R' := Rv) K ht hb F (Nat.lt_of_le_of_lt hsz hn) (fun _ _ _ _ hz => hz) hkey (show Rv v = some (.held v, []) from rfl)
  obtain ⟨w', q1, q2, q3⟩ := h1'.update K ht hn hkey (show Rv v = some (.held v, []) from rfl)
  refine ⟨w', q1, ⟨_, q2, hs.put (K.key hkey) v⟩, q3, ?_⟩
  have e := (Result.ok.inj (hrun.symm.trans q1)).2
  have e2 := congrArg (fun (V : World) => V.heap.size) e
  exact e2.symm.trans (Array.size_setIfInBounds ..)
theorem int_key {k : TypeId} (hk : Tryd.prog.underlying k = some (.int .i64)) (n : Nat) (h : n ≤ 1000000) : keyOf Tryd.prog k (.int .i64 (n : Int)) = some (.int .i64 (n : Int)) := by
  have hw : (Lit.int .i64 (n : Int)).wf = true := by
    have h1 : (-9223372036854775808 : Int) ≤ (n : Int) := by omega
    have h2 : (n : Int) ≤ 9223372036854775807 := by omega
    simp [Lit.wf, IntKind.min, IntKind.max, IntKind.signed, IntKind.bits, h1, h2]
  simp [keyOf, hk, mapKey, hw]
theorem str_key {k : TypeId} (hk : Tryd.prog.underlying k = some .string) (s : ByteArray) (h : s.size ≤ maxLen) : keyOf Tryd.prog k (.string s) = some (.string s.data.toList) := by
  simp [keyOf, hk, mapKey, h]
end Go.Proofs.YtemcpjflpggaeaaDoor.Dk
