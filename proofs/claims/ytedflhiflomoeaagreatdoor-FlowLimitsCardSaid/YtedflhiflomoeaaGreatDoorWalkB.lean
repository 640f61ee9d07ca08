import Derived.Test.YtedflhiflomoeaaGreatDoorWalkA
set_option linter.unusedSimpArgs false
set_option linter.unusedVariables false
namespace Go.Proofs.YtedflhiflomoeaaGreatDoor
open Go.RowKit

theorem ret_str {a b : List UInt8} (h : a = b) : Ending.returned (.string ⟨a.toArray⟩) = .returned (.string ⟨b.toArray⟩) := by rw [h]

/-- Which values may be. -/
def rightValueB (k n : Int) (l : List UInt8) : Bool :=
  if k = 1 then decide (-1000000000 ≤ n) && (decide (n ≤ 1000000000) && l.isEmpty) else if k = 2 then rightWordB l && n == 0 else false

theorem below_box (w : World) (o : Obj) : Below w.heap.size w (w.alloc o) := (Below.refl _ _).alloc (Nat.le_refl _) o

theorem bool_false {b : Bool} (h : ¬ b = true) : b = false := by cases b <;> simp_all

set_option maxHeartbeats 400000 in
theorem rightValue_any (k n : Int) (s : ByteArray) (w : World) (hs : s.size ≤ maxLen) :
    Calls Tryz.prog 116 #[.agg #[.int .i64 k, .int .i64 n, .string s]] w fun e w' => e = .returned (.bool (rightValueB k n s.data.toList)) ∧ Below w.heap.size w w' := by
  go_enter Tryz.func116, Tryz.ntmps116
  go_wp2_with (go_at_call 120; refine (rightWord_any _ _ (by omega)).mono ?_; rintro e w' ⟨rfl, rfl⟩)
  all_goals go_ret
  all_goals refine ⟨ret_bool ?_, below_box _ _⟩
  all_goals simp_all [rightValueB, ByteArray.toList_eq]
  all_goals omega

def lessB (k n : Int) (l : List UInt8) (k' n' : Int) (l' : List UInt8) : Bool :=
  if k != k' then decide (k < k') else if k == 1 then decide (n < n') else Op.bytesLess l l'

end Go.Proofs.YtedflhiflomoeaaGreatDoor
