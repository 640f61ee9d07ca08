import Derived.Test.YtemcpjflpggaeaaDoorProg
import Derived.Test.YtemcpjflpggaeaaDoorSumB
import Derived.WalkKit
import Derived.WalkSpells
import Derived.WalkLawsBesides
import Derived.Deep.QuietTactic
import Derived.BigQuiet
import Derived.Deep.RegionWith
import Derived.Deep.DeepFit
set_option linter.unusedSimpArgs false
set_option linter.unusedVariables false
namespace Go.Proofs.YtemcpjflpggaeaaDoor
open Go.RowKit

theorem ret_u32 {a b : Int} (h : a = b) : Ending.returned (.int .u32 a) = .returned (.int .u32 b) := by rw [h]

set_option maxHeartbeats 400000 in
theorem rotl_7 (x : BitVec 32) (w : World) : Calls Tryd.prog 88 #[.int .u32 (U x), .int .i64 (-7)] w fun e w' => e = .returned (.int .u32 (U (rotr x 7))) ∧ w' = w := by
  have hb : bits .and .u64 (IntKind.u64.wrap (-7)) 31 = 25 := by decide
  go_enter Tryd.func88, Tryd.ntmps88
  go_wp2
  go_ret
  refine ⟨ret_u32 ?_, rfl⟩
  rw [U_shl x 25 33554432 rfl, U_shr x 7 128 rfl, U_or, ← rotr_or]
set_option maxHeartbeats 400000 in
theorem rotl_18 (x : BitVec 32) (w : World) : Calls Tryd.prog 88 #[.int .u32 (U x), .int .i64 (-18)] w fun e w' => e = .returned (.int .u32 (U (rotr x 18))) ∧ w' = w := by
  have hb : bits .and .u64 (IntKind.u64.wrap (-18)) 31 = 14 := by decide
  go_enter Tryd.func88, Tryd.ntmps88
  go_wp2
  go_ret
  refine ⟨ret_u32 ?_, rfl⟩
  rw [U_shl x 14 16384 rfl, U_shr x 18 262144 rfl, U_or, ← rotr_or]
set_option maxHeartbeats 400000 in
theorem rotl_17 (x : BitVec 32) (w : World) : Calls Tryd.prog 88 #[.int .u32 (U x), .int .i64 (-17)] w fun e w' => e = .returned (.int .u32 (U (rotr x 17))) ∧ w' = w := by
  have hb : bits .and .u64 (IntKind.u64.wrap (-17)) 31 = 15 := by decide
  go_enter Tryd.func88, Tryd.ntmps88
  go_wp2
  go_ret
  refine ⟨ret_u32 ?_, rfl⟩
  rw [U_shl x 15 32768 rfl, U_shr x 17 131072 rfl, U_or, ← rotr_or]
set_option maxHeartbeats 400000 in
theorem rotl_19 (x : BitVec 32) (w : World) : Calls Tryd.prog 88 #[.int .u32 (U x), .int .i64 (-19)] w fun e w' => e = .returned (.int .u32 (U (rotr x 19))) ∧ w' = w := by
  have hb : bits .and .u64 (IntKind.u64.wrap (-19)) 31 = 13 := by decide
  go_enter Tryd.func88, Tryd.ntmps88
  go_wp2
  go_ret
  refine ⟨ret_u32 ?_, rfl⟩
  rw [U_shl x 13 8192 rfl, U_shr x 19 524288 rfl, U_or, ← rotr_or]
set_option maxHeartbeats 400000 in
theorem rotl_6 (x : BitVec 32) (w : World) : Calls Tryd.prog 88 #[.int .u32 (U x), .int .i64 (-6)] w fun e w' => e = .returned (.int .u32 (U (rotr x 6))) ∧ w' = w := by
  have hb : bits .and .u64 (IntKind.u64.wrap (-6)) 31 = 26 := by decide
  go_enter Tryd.func88, Tryd.ntmps88
  go_wp2
  go_ret
  refine ⟨ret_u32 ?_, rfl⟩
  rw [U_shl x 26 67108864 rfl, U_shr x 6 64 rfl, U_or, ← rotr_or]
set_option maxHeartbeats 400000 in
theorem rotl_11 (x : BitVec 32) (w : World) : Calls Tryd.prog 88 #[.int .u32 (U x), .int .i64 (-11)] w fun e w' => e = .returned (.int .u32 (U (rotr x 11))) ∧ w' = w := by
  have hb : bits .and .u64 (IntKind.u64.wrap (-11)) 31 = 21 := by decide
  go_enter Tryd.func88, Tryd.ntmps88
  go_wp2
  go_ret
  refine ⟨ret_u32 ?_, rfl⟩
  rw [U_shl x 21 2097152 rfl, U_shr x 11 2048 rfl, U_or, ← rotr_or]
set_option maxHeartbeats 400000 in
theorem rotl_25 (x : BitVec 32) (w : World) : Calls Tryd.prog 88 #[.int .u32 (U x), .int .i64 (-25)] w fun e w' => e = .returned (.int .u32 (U (rotr x 25))) ∧ w' = w := by
  have hb : bits .and .u64 (IntKind.u64.wrap (-25)) 31 = 7 := by decide
  go_enter Tryd.func88, Tryd.ntmps88
  go_wp2
  go_ret
  refine ⟨ret_u32 ?_, rfl⟩
  rw [U_shl x 7 128 rfl, U_shr x 25 33554432 rfl, U_or, ← rotr_or]
set_option maxHeartbeats 400000 in
theorem rotl_2 (x : BitVec 32) (w : World) : Calls Tryd.prog 88 #[.int .u32 (U x), .int .i64 (-2)] w fun e w' => e = .returned (.int .u32 (U (rotr x 2))) ∧ w' = w := by
  have hb : bits .and .u64 (IntKind.u64.wrap (-2)) 31 = 30 := by decide
  go_enter Tryd.func88, Tryd.ntmps88
  go_wp2
  go_ret
  refine ⟨ret_u32 ?_, rfl⟩
  rw [U_shl x 30 1073741824 rfl, U_shr x 2 4 rfl, U_or, ← rotr_or]
set_option maxHeartbeats 400000 in
theorem rotl_13 (x : BitVec 32) (w : World) : Calls Tryd.prog 88 #[.int .u32 (U x), .int .i64 (-13)] w fun e w' => e = .returned (.int .u32 (U (rotr x 13))) ∧ w' = w := by
  have hb : bits .and .u64 (IntKind.u64.wrap (-13)) 31 = 19 := by decide
  go_enter Tryd.func88, Tryd.ntmps88
  go_wp2
  go_ret
  refine ⟨ret_u32 ?_, rfl⟩
  rw [U_shl x 19 524288 rfl, U_shr x 13 8192 rfl, U_or, ← rotr_or]
set_option maxHeartbeats 400000 in
theorem rotl_22 (x : BitVec 32) (w : World) : Calls Tryd.prog 88 #[.int .u32 (U x), .int .i64 (-22)] w fun e w' => e = .returned (.int .u32 (U (rotr x 22))) ∧ w' = w := by
  have hb : bits .and .u64 (IntKind.u64.wrap (-22)) 31 = 10 := by decide
  go_enter Tryd.func88, Tryd.ntmps88
  go_wp2
  go_ret
  refine ⟨ret_u32 ?_, rfl⟩
  rw [U_shl x 10 1024 rfl, U_shr x 22 4194304 rfl, U_or, ← rotr_or]
def known (n : Int) : Bool := n == 7 || n == 18 || n == 17 || n == 19 || n == 6 || n == 11 || n == 25 || n == 2 || n == 13 || n == 22
theorem rotl_any (x : BitVec 32) (n : Int) (w : World) (h : known n = true) : Calls Tryd.prog 88 #[.int .u32 (U x), .int .i64 (-n)] w fun e w' => e = .returned (.int .u32 (U (rotr x n.toNat))) ∧ w' = w := by
  simp only [known, Bool.or_eq_true, beq_iff_eq] at h
  rcases h with ((((((((h | h) | h) | h) | h) | h) | h) | h) | h) | h <;> subst h
  · exact rotl_7 x w
  · exact rotl_18 x w
  · exact rotl_17 x w
  · exact rotl_19 x w
  · exact rotl_6 x w
  · exact rotl_11 x w
  · exact rotl_25 x w
  · exact rotl_2 x w
  · exact rotl_13 x w
  · exact rotl_22 x w
end Go.Proofs.YtemcpjflpggaeaaDoor
