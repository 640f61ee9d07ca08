import Derived.Test.YtoncleppenggaaaGreatDoorTelF
import Derived.Stop.Asserts
set_option linter.unusedSimpArgs false
set_option linter.unusedVariables false
namespace Go.Proofs.YtoncleppenggaaaGreatDoor.Dk
open Go.RowKit Go.Extern.Stop Go.Stop Go.Extern

theorem typeOfA (v : Value) (w : World) : (ReflectliteType.typeOf #[.iface 82 v]).run Tryz.prog w = .ok (.iface 147 (.agg #[.pointer (some ⟨10, 82, none⟩)])) w := by kernel_rfl
theorem assignA (w : World) : (ReflectliteType.relation "AssignableTo" ReflectliteType.assignableTo #[.agg #[.pointer (some ⟨10, 82, none⟩)], .iface 147 (.agg #[.pointer (some ⟨10, 62, none⟩)])]).run Tryz.prog w = .ok (.bool false) w := by kernel_rfl
theorem methUnwrap (v : Value) (w : World) : (Go.method 344 82 v "Unwrap").run Tryz.prog w = .ok (162, v) w := by kernel_rfl
set_option maxHeartbeats 400000 in
theorem unwrap_any (p : Nat) (n : Int) (w : World) (h : w.cell? ⟨p, 0, none⟩ = some (.int .i64 n)) : Calls Tryz.prog 162 #[.pointer (some ⟨p, 0, none⟩)] w fun e w' => e = .returned (.iface 62 (.int .i64 n)) ∧ w' = w := by
  go_enter Tryz.func162, Tryz.ntmps162
  go_wp2
  go_ret
  exact ⟨rfl, rfl⟩
set_option maxRecDepth 100000 in
set_option maxHeartbeats 4000000 in
theorem as_at (n : Int) (p : Nat) (t q : Addr) (old : Value) (w : World) (hp : w.cell? ⟨p, 0, none⟩ = some (.int .i64 n)) (hq : w.cell? q = some (.pointer (some t))) (ht0 : w.cell? t = some old) (hf0 : w.frozen? t = false) :
    Calls Tryz.prog 65 #[.iface 82 (.pointer (some ⟨p, 0, none⟩)), .iface 90 (.pointer (some t)), .agg #[.pointer (some ⟨10, 90, none⟩), .pointer (some q), .int .u64 150], .iface 147 (.agg #[.pointer (some ⟨10, 62, none⟩)])] w fun ev w' => ev = .returned (.bool true) ∧ w' = ((w.alloc (.cells #[.pointer (some ⟨10, 90, none⟩), .pointer (some q), .int .u64 150] 121)).alloc (.cells #[.int .i64 n] 62)).setCell t (.int .i64 n) := by
  have h1 := @run_callFunc_extern Tryz.prog 62 _ (fun args => ReflectliteValue.unpack (args.getD 0 (.tuple #[]))) Tryz.func62 (by kernel_rfl) (by kernel_rfl) (by kernel_rfl) (by kernel_rfl)
  have h2 := @run_callFunc_extern Tryz.prog 86 _ ReflectliteType.typeOf Tryz.func86 (by kernel_rfl) (by kernel_rfl) (by kernel_rfl) (by kernel_rfl)
  have h3 := @run_callFunc_extern Tryz.prog 167 _ (ReflectliteType.relation "AssignableTo" ReflectliteType.assignableTo) Tryz.func167 (by kernel_rfl) (by kernel_rfl) (by kernel_rfl) (by kernel_rfl)
  have h4 := @run_callFunc_extern Tryz.prog 87 _ (ReflectliteValue.method (ReflectliteValue.valueError "reflectlite.Value.Elem" 0) ReflectliteValue.elem) Tryz.func87 (by kernel_rfl) (by kernel_rfl) (by kernel_rfl) (by kernel_rfl)
  have h5 := @run_callFunc_extern Tryz.prog 88 _ ReflectliteValue.set Tryz.func88 (by kernel_rfl) (by kernel_rfl) (by kernel_rfl) (by kernel_rfl)
  have tO := typeOfE
  have mA := methAssign
  have aE := assignE
  have vE := valueOfE
  have hlt : t.block < w.heap.size := World.block_lt_of_cell? w t ht0
  have hlq : q.block < w.heap.size := World.block_lt_of_cell? w q hq
  have el := elemV q t (w.alloc (.cells #[.pointer (some ⟨10, 90, none⟩), .pointer (some q), .int .u64 150] 121)) (by rw [World.cell?_alloc_lt _ _ q hlq]; exact hq)
  have st := setE t ⟨w.heap.size + 1, 0, none⟩ n old ((w.alloc (.cells #[.pointer (some ⟨10, 90, none⟩), .pointer (some q), .int .u64 150] 121)).alloc (.cells #[.int .i64 n] 62))
    (by rw [World.cell?_alloc_at _ _ _ _ (by simp)]; rfl)
    (by rw [World.cell?_alloc_lt _ _ t (by simp; omega), World.cell?_alloc_lt _ _ t hlt]; exact ht0)
    (by rw [World.frozen?_alloc_old _ _ t (by simp; omega), World.frozen?_alloc_old _ _ t (Nat.ne_of_lt hlt)]; exact hf0)
  have tO2 := typeOfA
  have aE2 := assignA
  have mU := methUnwrap
  have hp1 : (w.alloc (.cells #[.pointer (some ⟨10, 90, none⟩), .pointer (some q), .int .u64 150] 121)).cell? ⟨p, 0, none⟩ = some (.int .i64 n) := by rw [World.cell?_alloc_lt _ _ ⟨p, 0, none⟩ (World.block_lt_of_cell? w ⟨p, 0, none⟩ hp)]; exact hp
  have HU := hid (unwrap_any p n _ hp1)
  have hta1 : ∀ (v : Value) (W : World), (Instr.typeAssert (.iface 82 v) 32 152 true).run Tryz.prog W = .ok (.tuple #[.nilIface, .bool false]) W := fun v W => run_typeAssert_lacksB Tryz.underlying152 (by kernel_rfl) (by kernel_rfl) v 32 W
  have hta2 : ∀ (v : Value) (W : World), (Instr.typeAssert (.iface 82 v) 32 155 true).run Tryz.prog W = .ok (.tuple #[.iface 82 v, .bool true]) W := fun v W => by kernel_rfl
  go_enter Tryz.func65, Tryz.ntmps65
  go_wp2
  refine wp_loop_rounds 2 ?_
  rw [rounds_succ]
  go_wp2_with (first | (go_at_call 162; refine HU.out.mono ?_; rintro e9 w9 ⟨rfl, rfl⟩))
  rw [rounds_succ]
  go_wp2
  go_ret
  exact ⟨rfl, rfl⟩
end Go.Proofs.YtoncleppenggaaaGreatDoor.Dk

namespace Go.Proofs.YtoncleppenggaaaGreatDoor.Dk
open Go.RowKit Go.Extern.Stop Go.Stop Go.Extern

set_option maxRecDepth 100000 in
set_option maxHeartbeats 4000000 in
theorem as_hitA (n : Int) (p : Nat) (t : Addr) (old : Value) (w : World) (hp : w.cell? ⟨p, 0, none⟩ = some (.int .i64 n)) (hg : w.cell? ⟨0, 0, none⟩ = some (.iface 147 (.agg #[.pointer (some ⟨10, 32, none⟩)]))) (ht0 : w.cell? t = some old) (hf0 : w.frozen? t = false) :
    Calls Tryz.prog 40 #[.iface 82 (.pointer (some ⟨p, 0, none⟩)), .iface 90 (.pointer (some t))] w fun ev w' => ev = .returned (.bool true) ∧ w'.cell? t = some (.int .i64 n) ∧ Keep [t.block] w w' := by
  have h1 := @run_callFunc_extern Tryz.prog 62 _ (fun args => ReflectliteValue.unpack (args.getD 0 (.tuple #[]))) Tryz.func62 (by kernel_rfl) (by kernel_rfl) (by kernel_rfl) (by kernel_rfl)
  have h2 := @run_callFunc_extern Tryz.prog 63 _ (ReflectliteValue.methodAny (ReflectliteValue.valueError "reflectlite.Value.Type" 0) (fun t _ _ _ => ReflectliteType.toType t)) Tryz.func63 (by kernel_rfl) (by kernel_rfl) (by kernel_rfl) (by kernel_rfl)
  have h3 := @run_callFunc_extern Tryz.prog 64 _ (ReflectliteValue.method (ReflectliteValue.valueError "reflectlite.Value.IsNil" 0) ReflectliteValue.isNil) Tryz.func64 (by kernel_rfl) (by kernel_rfl) (by kernel_rfl) (by kernel_rfl)
  have h4 := @run_callFunc_extern Tryz.prog 157 _ (ReflectliteType.abiMethod fun t => do pure (.int .u8 (← Rtype.kind t))) Tryz.func157 (by kernel_rfl) (by kernel_rfl) (by kernel_rfl) (by kernel_rfl)
  have h5 := @run_callFunc_extern Tryz.prog 169 _ (ReflectliteType.method ReflectliteType.elem) Tryz.func169 (by kernel_rfl) (by kernel_rfl) (by kernel_rfl) (by kernel_rfl)
  have h6 := @run_callFunc_extern Tryz.prog 170 _ (ReflectliteType.relation "Implements" ReflectliteType.implements_) Tryz.func170 (by kernel_rfl) (by kernel_rfl) (by kernel_rfl) (by kernel_rfl)
  have vP := valueOfP
  have tP := typeP
  have mK := methKind
  have mE := methElem
  have mI := methImpl
  have kP := kindP
  have kE := kindE
  have eT := elemT
  have iE := implE
  have hlt : t.block < w.heap.size := World.block_lt_of_cell? w t ht0
  have hl0 : 0 < w.heap.size := World.block_lt_of_cell? w ⟨0, 0, none⟩ hg
  have n8 := isNilP ⟨w.heap.size, 0, none⟩ t ((w.alloc (.cells #[.pointer (some t)] 90)).alloc (.cells #[.pointer (some ⟨10, 90, none⟩), .pointer (some ⟨w.heap.size, 0, none⟩), .int .u64 150] 121)) (by simp)
  have hg2 : ((w.alloc (.cells #[.pointer (some t)] 90)).alloc (.cells #[.pointer (some ⟨10, 90, none⟩), .pointer (some ⟨w.heap.size, 0, none⟩), .int .u64 150] 121)).cell? ⟨0, 0, none⟩ = some (.iface 147 (.agg #[.pointer (some ⟨10, 32, none⟩)])) := by
    rw [World.cell?_alloc_lt _ _ ⟨0, 0, none⟩ (by simp), World.cell?_alloc_lt _ _ ⟨0, 0, none⟩ hl0]; exact hg
  have hlp : p < w.heap.size := World.block_lt_of_cell? w ⟨p, 0, none⟩ hp
  have hL := as_at n p t ⟨w.heap.size, 0, none⟩ old ((w.alloc (.cells #[.pointer (some t)] 90)).alloc (.cells #[.pointer (some ⟨10, 90, none⟩), .pointer (some ⟨w.heap.size, 0, none⟩), .int .u64 150] 121)) (by rw [World.cell?_alloc_lt _ _ ⟨p, 0, none⟩ (by simp; omega), World.cell?_alloc_lt _ _ ⟨p, 0, none⟩ hlp]; exact hp) (by simp)
    (by rw [World.cell?_alloc_lt _ _ t (by simp; omega), World.cell?_alloc_lt _ _ t hlt]; exact ht0)
    (by rw [World.frozen?_alloc_old _ _ t (by simp; omega), World.frozen?_alloc_old _ _ t (Nat.ne_of_lt hlt)]; exact hf0)
  have HL := hid hL
  have HT0 := hid ht0
  clear hL
  go_enter Tryz.func40, Tryz.ntmps40
  go_wp2_with (first | (go_at_call 65; refine HL.out.mono ?_; rintro e w2 ⟨rfl, rfl⟩))
  go_ret
  refine ⟨rfl, ?_, ?_⟩
  · exact World.cell?_setCell_same _ _ _ (by rw [World.cell?_alloc_lt _ _ t (by simp; omega), World.cell?_alloc_lt _ _ t (by simp; omega), World.cell?_alloc_lt _ _ t (by simp; omega), World.cell?_alloc_lt _ _ t hlt]; exact HT0.out)
  · obtain ⟨tb, to_, ts⟩ := t
    obtain rfl : ts = none := by simpa using World.cell?_spot HT0.out
    exact (((((Keep.refl _ w).alloc _).alloc _).alloc _).alloc _).set _ _ _ (Or.inl (by simp))
set_option maxHeartbeats 800000 in
theorem tellA_any (n : Int) (p : Nat) (w : World) (hp : w.cell? ⟨p, 0, none⟩ = some (.int .i64 n)) (hg : w.cell? ⟨0, 0, none⟩ = some (.iface 147 (.agg #[.pointer (some ⟨10, 32, none⟩)]))) :
    Calls Tryz.prog 19 #[.iface 82 (.pointer (some ⟨p, 0, none⟩))] w fun ev w' => ev = .returned (.int .i64 n) ∧ Below w.heap.size w w' := by
  have hl0 : 0 < w.heap.size := World.block_lt_of_cell? w ⟨0, 0, none⟩ hg
  have HA := hid (as_hitA n p ⟨w.heap.size, 0, none⟩ (.int .i64 0) (w.alloc (.cells #[.int .i64 0] 62)) (by rw [World.cell?_alloc_lt _ _ ⟨p, 0, none⟩ (World.block_lt_of_cell? w ⟨p, 0, none⟩ hp)]; exact hp) (by rw [World.cell?_alloc_lt _ _ ⟨0, 0, none⟩ hl0]; exact hg) (by simp) (by simp))
  go_enter Tryz.func19, Tryz.ntmps19
  go_wp2_with (first | (go_at_call 40; refine HA.out.mono ?_; rintro e w2 ⟨rfl, c2, k2⟩))
  go_ret
  exact ⟨rfl, (((Keep.refl [] w).alloc _).then k2 (by simp)).below (by simp) (Nat.le_refl _)⟩
end Go.Proofs.YtoncleppenggaaaGreatDoor.Dk

