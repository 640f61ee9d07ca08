import Derived.Test.YtemcpjflpggaeaaDoorStoA
import Derived.Test.YtemcpjflpggaeaaDoorMapR
import Derived.Test.YtemcpjflpggaeaaDoorShelf
import Derived.Test.YtemcpjflpggaeaaDoorDskL
set_option linter.unusedSimpArgs false
set_option linter.unusedVariables false
namespace Go.Proofs.YtemcpjflpggaeaaDoor.Dk
open Go.RowKit Go.Maps

/-- What a disk reads as. -/
def rdOf (d : St) : Nat → Option Bs := fun k => if k < d.sure.length then some (d.read k) else none
/-- A record as a value. -/
def recV (t : Bs) : Value := .agg #[.string (tx (sumL t)), .string (tx t)]
def mapOf (ts : List Bs) : Lit → Option Value := fun kl => match kl with
  | .string k => (ts.find? fun t => sumL t == k).map recV
  | _ => none
theorem mapOf_none {ts : List Bs} {k : Bs} (h : k ∉ ts.map sumL) : mapOf ts (.string k) = none := by
  simp only [mapOf, Option.map_eq_none_iff, List.find?_eq_none]
  intro t ht e
  exact h (List.mem_map.2 ⟨t, ht, by simpa using e⟩)
theorem mapOf_some {ts : List Bs} {k : Bs} (h : k ∈ ts.map sumL) : ∃ t ∈ ts, sumL t = k ∧ mapOf ts (.string k) = some (recV t) := by
  obtain ⟨u, hu, rfl⟩ := List.mem_map.1 h
  cases hf : ts.find? (fun t => sumL t == sumL u) with
  | none =>
    rw [List.find?_eq_none] at hf
    exact absurd (by simp) (hf u hu)
  | some t =>
    refine ⟨t, List.mem_of_find?_eq_some hf, by simpa using List.find?_some hf, ?_⟩
    simp [mapOf, hf]
theorem mapOf_put {ts : List Bs} {t : Bs} (h : sumL t ∉ ts.map sumL) : mapOf (ts ++ [t]) = putM (mapOf ts) (.string (sumL t)) (recV t) := by
  funext kl
  by_cases e : kl = .string (sumL t)
  · subst e
    rw [putM_at]
    have hn : ts.find? (fun u => sumL u == sumL t) = none := by
      rw [List.find?_eq_none]
      intro u hu q
      exact h (List.mem_map.2 ⟨u, hu, by simpa using q⟩)
    simp [mapOf, List.find?_append, hn]
  · rw [putM_off _ _ e]
    cases kl with
    | string k =>
      have hk : ¬ sumL t = k := fun q => e (by rw [q])
      simp [mapOf, List.find?_append, hk]
    | _ => rfl
def keyS (ts : List Bs) : List ByteArray := ts.map fun t => tx (sumL t)
theorem keyS_len (ts : List Bs) : (keyS ts).length = ts.length := by simp [keyS]
/-- A store lies in memory (its disk aside). -/
structure Mem (w : World) (X D M n B : Nat) (kv : Value) (ts : List Bs) (e : Nat) (sr : Bool) : Prop where
  head : Blk w X [.pointer (some ⟨D, 0, none⟩), .map (some M), kv, .int .i64 (e : Int), .bool sr]
  map : MapIs w 9 M n (mapOf ts)
  keys : w.ownsRow B 9 1 kv ts.length (st (keyS ts))
  xm : X ≠ M
  xl : X < B
  ml : M < B
def memB (X M : Nat) (kv : Value) : List Nat := X :: M :: kv.ownBlock.toList
theorem Mem.mv {w w' : World} {X D M n B : Nat} {kv : Value} {ts : List Bs} {e : Nat} {sr : Bool} {Y : List Nat} (h : Mem w X D M n B kv ts e sr) (hk : Keep Y w w') (hY : ∀ b ∈ memB X M kv, b ∉ Y) : Mem w' X D M n B kv ts e sr :=
  ⟨h.head.keep hk (hY X (by simp [memB])), h.map.block (hk.block M h.map.lt (hY M (by simp [memB]))), own_keep h.keys hk (fun b hb => hY b (by simp [memB, hb])), h.xm, h.xl, h.ml⟩
theorem Mem.below {w w' : World} {X D M n B : Nat} {kv : Value} {ts : List Bs} {e : Nat} {sr : Bool} (h : Mem w X D M n B kv ts e sr) (hb : Below w.heap.size w w') : Mem w' X D M n B kv ts e sr :=
  h.mv (Keep.of (X := []) hb) (by simp)
theorem Mem.mem_lt {w : World} {X D M n B : Nat} {kv : Value} {ts : List Bs} {e : Nat} {sr : Bool} (h : Mem w X D M n B kv ts e sr) : ∀ b ∈ memB X M kv, b < w.heap.size := by
  intro b hb
  simp only [memB, List.mem_cons, Option.mem_toList] at hb
  rcases hb with rfl | rfl | hb
  · exact h.head.lt
  · exact h.map.lt
  · exact (h.keys.lt b hb).2
theorem tx_list (t : Bs) : (tx t).data.toList = t := rfl
theorem tx_sz (t : Bs) : (tx t).size = t.length := tx_size t
end Go.Proofs.YtemcpjflpggaeaaDoor.Dk
