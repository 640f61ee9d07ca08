import Derived.Test.YtkdbidcofamkcaaGreatDoorWalkQ
set_option linter.unusedSimpArgs false
set_option linter.unusedVariables false
namespace Go.Proofs.YtkdbidcofamkcaaGreatDoor
open Go.RowKit

/-- The text of the known table. -/
def s0 : ByteArray := ⟨#[105, 100, 58, 105, 110, 116, 32, 110, 97, 109, 101, 58, 116, 101, 120, 116, 10, 49, 32, 39, 97, 32, 98, 39, 10, 45, 50, 32, 39, 39, 10]⟩
def cs0 : List Cl := [(⟨#[105, 100]⟩, 1), (⟨#[110, 97, 109, 101]⟩, 2)]
def rs0 : List (List V3) := [[(1, 1, []), (2, 0, [97, 32, 98])], [(1, -2, []), (2, 0, [])]]

theorem itoa_a : Lib.itoa 1 = [49] := by
  unfold Lib.itoa; rw [if_neg (by decide)]; exact Lib.decDigits_one (i := 1) (by decide)
theorem itoa_b : Lib.itoa (-2) = [45, 50] := by
  unfold Lib.itoa; rw [if_pos (by decide)]; exact congrArg (45 :: ·) (Lib.decDigits_one (i := 2) (by decide))

theorem pv_a : parseV [49] = some (1, 1, []) := by
  have h : readV [49] = (1, 1, []) := by kernel_rfl
  rw [pv_end h]
  simp only [valueL, if_true, itoa_a]
  decide
theorem pv_b : parseV [45, 50] = some (1, -2, []) := by
  have h : readV [45, 50] = (1, -2, []) := by kernel_rfl
  rw [pv_end h]
  simp only [valueL, if_true, itoa_b]
  decide
theorem pv_c : parseV [39, 97, 32, 98, 39] = some (2, 0, [97, 32, 98]) := by kernel_rfl
theorem pv_d : parseV [39, 39] = some (2, 0, []) := by kernel_rfl

theorem row_a : rowRead cs0 [49, 32, 39, 97, 32, 98, 39] false = some [(1, 1, []), (2, 0, [97, 32, 98])] := by
  have h1 : cutV false [49, 32, 39, 97, 32, 98, 39] = ([49], [39, 97, 32, 98, 39], true) := by decide
  have h2 : cutV false [39, 97, 32, 98, 39] = ([39, 97, 32, 98, 39], [], false) := by decide
  simp [cs0, rowRead, h1, h2, pv_a, pv_c]
theorem row_b : rowRead cs0 [45, 50, 32, 39, 39] false = some [(1, -2, []), (2, 0, [])] := by
  have h1 : cutV false [45, 50, 32, 39, 39] = ([45, 50], [39, 39], true) := by decide
  have h2 : cutV false [39, 39] = ([39, 39], [], false) := by decide
  simp [cs0, rowRead, h1, h2, pv_b, pv_d]

theorem cut_a : Lib.cut s0.data.toList [10] = ([105, 100, 58, 105, 110, 116, 32, 110, 97, 109, 101, 58, 116, 101, 120, 116], [49, 32, 39, 97, 32, 98, 39, 10, 45, 50, 32, 39, 39, 10], true) := by decide +kernel
theorem cut_b : Lib.cut [49, 32, 39, 97, 32, 98, 39, 10, 45, 50, 32, 39, 39, 10] [10] = ([49, 32, 39, 97, 32, 98, 39], [45, 50, 32, 39, 39, 10], true) := by decide +kernel
theorem cut_c : Lib.cut [45, 50, 32, 39, 39, 10] [10] = ([45, 50, 32, 39, 39], [], true) := by decide +kernel
theorem cols_a : colsOf ⟨[105, 100, 58, 105, 110, 116, 32, 110, 97, 109, 101, 58, 116, 101, 120, 116].toArray⟩ = cs0 := by kernel_rfl
theorem right_a : rightColsB cs0 = true := by kernel_rfl

theorem parse_a : parseT s0.data.toList = .ok (cs0, rs0) := by
  rw [parseT_of cut_a, cols_a, if_pos right_a]
  rw [show s0.data.toList.length + 1 = 32 from rfl]
  rw [lines_more (f := 31) (by simp) (by rw [cut_b]; exact row_a) (by simp), cut_b]
  rw [lines_more (f := 30) (by simp) (by rw [cut_c]; exact row_b) (by simp), cut_c]
  rw [lines_end]
  rfl
theorem print_a : printL cs0 (rs0.map (·.map vl)) = s0.data.toList := by
  simp only [printL, rs0, List.map_cons, List.map_nil, List.flatMap_cons, List.flatMap_nil, rowL, vl, valueL, if_true, itoa_a, itoa_b]
  decide +kernel
theorem right_b : rightB cs0 (rs0.map (·.map vl)) = true := by kernel_rfl
end Go.Proofs.YtkdbidcofamkcaaGreatDoor
