import Derived.Test.YtedflhiflomoeaaGreatDoorWalkH
import Derived.Lib.SmallJoins
set_option linter.unusedSimpArgs false
set_option linter.unusedVariables false
namespace Go.Proofs.YtedflhiflomoeaaGreatDoor
open Go.RowKit

/-- What a text is read as, ahead of the look at what that is written as. -/
def readV (l : List UInt8) : Int × Int × List UInt8 :=
  if Lib.hasPrefix l [39] then (2, 0, Lib.trimSuffix (l.drop 1) [39]) else
  match Lib.atoiAll l with
  | .ok n => (1, n, [])
  | _ => (0, 0, [])
def parseV (l : List UInt8) : Option (Int × Int × List UInt8) :=
  if rightValueB (readV l).1 (readV l).2.1 (readV l).2.2 = true ∧ valueL (readV l).1 (readV l).2.1 (readV l).2.2 = l then some (readV l) else none

def vlOf (x : Int × Int × List UInt8) : Value := .agg #[.int .i64 x.1, .int .i64 x.2.1, .string ⟨x.2.2.toArray⟩]
def pvEnd : Option (Int × Int × List UInt8) → Value
  | some x => .tuple #[vlOf x, .nilIface]
  | none => .tuple #[.agg #[.int .i64 0, .int .i64 0, .string ⟨#[]⟩], .iface 32 (.int .i64 3)]

theorem num_end (x : Lib.NumEnd Int) : (∃ n, x = .ok n) ∨ x = Lib.atoiAll [] ∨ x = .range := by
  cases x
  · exact Or.inl ⟨_, rfl⟩
  · exact Or.inr (Or.inl rfl)
  · exact Or.inr (Or.inr rfl)
theorem atoi_ok (s : ByteArray) (w : World) (n : Int) (hs : s.size ≤ 1000000) (h : Lib.atoiAll s.data.toList = .ok n) :
    Calls Tryz.prog 31 #[.string s] w fun e w' => e = .returned (.tuple #[.int .i64 n, .nilIface]) ∧ Below w.heap.size w w' :=
  (Tryz.strconv_Atoi_ok s (by omega) n h w).mono fun _ _ x => ⟨x.1, by
    rcases x.2 with h | ⟨t, h⟩
    · rw [h]; exact Below.refl _ _
    · rw [h]; exact Joins.below_bytesWorld _ _ _ _ (Nat.le_refl _)⟩
theorem right_small {k n : Int} {l : List UInt8} (h : rightValueB k n l = true) : l.length ≤ 16 ∧ -1000000000 ≤ n ∧ n ≤ 1000000000 := by
  unfold rightValueB at h
  split at h
  · simp at h; rw [h.2.2]; exact ⟨by simp, h.1, h.2.1⟩
  · split at h
    · simp [rightWordB] at h; rw [h.2]; exact ⟨h.1.1, by omega, by omega⟩
    · simp at h

/-- The end of the walk: what was read is looked at, and written. -/
theorem pv_end {l : List UInt8} {x : Int × Int × List UInt8} (hr : readV l = x) : parseV l = if rightValueB x.1 x.2.1 x.2.2 = true ∧ valueL x.1 x.2.1 x.2.2 = l then some x else none := by
  subst hr; rfl

theorem pre_len {s : ByteArray} (hp : Lib.hasPrefix s.data.toList [39] = true) : 1 ≤ s.size := by
  have hz : s.data.toList.length = s.size := by simp
  cases h : s.data.toList with
  | nil => rw [h] at hp; simp [Lib.hasPrefix] at hp
  | cons c r => rw [h] at hz; simp at hz; omega

theorem trim_len (l : List UInt8) {n : Nat} (h : l.length ≤ n) : (Lib.trimSuffix l [39]).length ≤ n := by
  unfold Lib.trimSuffix
  split
  · rw [List.length_take]; omega
  · exact h

end Go.Proofs.YtedflhiflomoeaaGreatDoor
