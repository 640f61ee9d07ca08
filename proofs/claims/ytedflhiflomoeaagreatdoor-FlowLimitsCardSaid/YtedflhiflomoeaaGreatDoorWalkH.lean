import Derived.Test.YtedflhiflomoeaaGreatDoorWalkG
set_option linter.unusedSimpArgs false
set_option linter.unusedVariables false
namespace Go.Proofs.YtedflhiflomoeaaGreatDoor
open Go.RowKit

theorem below_growN (w : World) (k : Nat) (os : Array Obj) : Below w.heap.size w (Sort.grow (w.drewN k) os) :=
  ⟨rfl, rfl, rfl, by simp [Sort.grow, World.drewN], fun k hk => by simp [Sort.grow, World.drewN, Array.getElem?_append, hk]⟩

theorem ret_strB {x : ByteArray} {l : List UInt8} (h : x.data.toList = l) : Ending.returned (.string x) = .returned (.string ⟨l.toArray⟩) := by rw [str_of h]

/-- What a value is written as. -/
def valueL (k n : Int) (l : List UInt8) : List UInt8 := if k = 1 then Lib.itoa n else 39 :: (l ++ [39])

theorem strcat_data (a b : ByteArray) : (a ++ b).data.toList = a.data.toList ++ b.data.toList := by simp

theorem em_t {s : ByteArray} (h : s.toList.isEmpty = true) : s.data.toList = [] := by rw [ByteArray.toList_eq, List.isEmpty_iff] at h; exact h
theorem em_f {s : ByteArray} (h : s.toList.isEmpty = false) : s.data.toList ≠ [] := by
  rw [ByteArray.toList_eq] at h; intro e; rw [e] at h; simp at h
theorem eq_t {l : List UInt8} {s : ByteArray} (h : (l == s.toList) = true) : s.data.toList = l := by rw [ByteArray.toList_eq] at h; exact (beq_iff_eq.1 h).symm
theorem eq_f {l : List UInt8} {s : ByteArray} (h : (l == s.toList) = false) : s.data.toList ≠ l := by
  rw [ByteArray.toList_eq] at h; intro e; rw [e] at h; simp at h

def kindOfI (l : List UInt8) : Int := if l = [105, 110, 116] then 1 else if l = [116, 101, 120, 116] then 2 else 0

end Go.Proofs.YtedflhiflomoeaaGreatDoor
