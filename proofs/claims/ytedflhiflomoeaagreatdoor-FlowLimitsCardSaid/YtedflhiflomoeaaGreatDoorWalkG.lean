import Derived.Test.YtedflhiflomoeaaGreatDoorWalkF
set_option linter.unusedSimpArgs false
set_option linter.unusedVariables false
namespace Go.Proofs.YtedflhiflomoeaaGreatDoor
open Go.RowKit

def rightB (cs : List Cl) (rs : List (List Vl)) : Bool := rightColsB cs && (decide (rs.length ≤ 60) && rs.all fun r => rowOK r cs)

theorem rightCols_len {cs : List Cl} (h : rightColsB cs = true) : 1 ≤ cs.length ∧ cs.length ≤ 6 := by
  simp [rightColsB] at h; exact ⟨by omega, h.2.1⟩
theorem all_step {p : List Vl → Bool} {rs : List (List Vl)} {k : Nat} (h : k < rs.length) (ht : (rs.take k).all p = true) (hp : p rs[k] = true) : (rs.take (k + 1)).all p = true := by
  rw [List.take_succ_eq_append_getElem h, List.all_append, ht]; simp [hp]
theorem all_false {p : List Vl → Bool} {rs : List (List Vl)} {k : Nat} (h : k < rs.length) (hp : p rs[k] = false) : rs.all p = false := by
  rw [List.all_eq_false]; exact ⟨_, List.getElem_mem h, by simp [hp]⟩

end Go.Proofs.YtedflhiflomoeaaGreatDoor
