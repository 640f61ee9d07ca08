import Derived.Test.YtemcpjflpggaeaaDoorSumD
set_option linter.unusedSimpArgs false
set_option linter.unusedVariables false
namespace Go.Proofs.YtemcpjflpggaeaaDoor
open Go.RowKit

theorem zero_row : (cellsU (full [])).length = 64 := by simp [cellsU, full]

set_option maxRecDepth 100000 in
set_option maxHeartbeats 1600000 in
theorem schedule_any (s : ByteArray) (w : World) (hs : s.size = 64) :
    Calls Tryd.prog 87 #[.string s] w fun e w' => e = .returned (.agg (cellsU (sched s.data.toList 64)).toArray) ∧ Below w.heap.size w w' := by
  go_enter Tryd.func87, Tryd.ntmps87
  go_wp2
  go_loopw [8] (fun i wr => ∃ k : Nat, k ≤ 16 ∧ i = .int .i64 k ∧ Row wr (w.heap.size + 1) (cellsU (full (sched s.data.toList k))) ∧ Row wr w.heap.size (cellsU (full [])) ∧ Below w.heap.size w wr) (fun i _ => 16 - (intOf i).toNat)
  case atStart => exact ⟨0, by omega, rfl, Row.new' _ _ _ _ _ (by simp) rfl, (Row.new' _ _ _ _ _ rfl rfl).alloc _, ((Below.refl _ _).alloc (Nat.le_refl _) _).alloc (by simp) _⟩
  case round =>
    obtain ⟨k, hk, rfl, hrow, hres, hnx⟩ := hrel
    by_cases hlt : k < 16
    · have i0 : (4 * (k : Int)) < 64 := by omega
      have i1 : (4 * (k : Int) + 1) < 64 := by omega
      have i2 : (4 * (k : Int) + 2) < 64 := by omega
      have i3 : (4 * (k : Int) + 3) < 64 := by omega
      have j0 : 0 ≤ (4 * (k : Int)) := by omega
      have j1 : 0 ≤ (4 * (k : Int) + 1) := by omega
      have j2 : 0 ≤ (4 * (k : Int) + 2) := by omega
      have j3 : 0 ≤ (4 * (k : Int) + 3) := by omega
      have hc := hrow.word k (by rw [full_len (by rw [sched_length]; omega)]; omega)
      have hf := hrow.free k (by rw [full_len (by rw [sched_length]; omega)]; omega)
      have HR := Hid.mk hrow
      have HS := Hid.mk hres
      clear hrow hres
      go_wp2
      go_region
      go_wp2
      go_roundw
      case rel =>
        refine ⟨k + 1, by omega, by go_num, Row.to (HR.out.set k _).drew (sched_store (by omega) ?_), (HS.out.other _ _ _ (by omega)).drew, (hnx.setCell (by show _ ≤ w.heap.size + 1; omega) _).drew⟩
        rw [next, if_pos hlt, ← be4_or, byte_at s (4 * k) (by omega), byte_at s (4 * k + 1) (by omega), byte_at s (4 * k + 2) (by omega), byte_at s (4 * k + 3) (by omega)]
        simp only [byte_m, byte_m24, byte_m16, byte_m8]
      case measure => simp [intOf]; omega
    · have hke : k = 16 := by omega
      rw [hke] at hrow
      clear hke
      obtain ⟨wb, rfl⟩ : ∃ x, x = wr := ⟨_, rfl⟩
      have HR := Hid.mk hrow
      have HS := Hid.mk hres
      have HB := Hid.mk hnx
      clear hrow hres hnx
      go_wp2
      go_loopw [5] (fun i wx => ∃ k : Nat, 16 ≤ k ∧ k ≤ 64 ∧ i = .int .i64 k ∧ Row wx (w.heap.size + 1) (cellsU (full (sched s.data.toList k))) ∧ Row wx w.heap.size (cellsU (full [])) ∧ Below w.heap.size w wx) (fun i _ => 64 - (intOf i).toNat)
      case atStart => exact ⟨16, by omega, by omega, rfl, HR.out, HS.out, HB.out⟩
      case round =>
        obtain ⟨k, hk, hk', rfl, hrow, hres, hnx⟩ := hrel
        obtain ⟨wx, rfl⟩ : ∃ x, x = wr := ⟨_, rfl⟩
        by_cases hlt : k < 64
        · have hln := sched_length s.data.toList k
          obtain ⟨x15, e15, c15⟩ := hrow.early (k - 15) (by omega) (by omega)
          obtain ⟨x2, e2, c2⟩ := hrow.early (k - 2) (by omega) (by omega)
          obtain ⟨x16, e16, c16⟩ := hrow.early (k - 16) (by omega) (by omega)
          obtain ⟨x7, e7, c7⟩ := hrow.early (k - 7) (by omega) (by omega)
          have hc := hrow.word k (by rw [full_len (by omega)]; omega)
          have hf := hrow.free k (by rw [full_len (by omega)]; omega)
          have HR := Hid.mk hrow
          have HS := Hid.mk hres
          have E := Hid.mk (And.intro e15 (And.intro e2 (And.intro e16 e7)))
          clear hrow hres e15 e2 e16 e7 hln
          have n15 : ((k : Int) - 15).toNat = k - 15 := by omega
          have n2 : ((k : Int) - 2).toNat = k - 2 := by omega
          have n16 : ((k : Int) - 16).toNat = k - 16 := by omega
          have n7 : ((k : Int) - 7).toNat = k - 7 := by omega
          have p15 : 0 ≤ (k : Int) - 15 := by omega
          have p2 : 0 ≤ (k : Int) - 2 := by omega
          have p16 : 0 ≤ (k : Int) - 16 := by omega
          have p7 : 0 ≤ (k : Int) - 7 := by omega
          have q15 : (k : Int) - 15 < 64 := by omega
          have q2 : (k : Int) - 2 < 64 := by omega
          have q16 : (k : Int) - 16 < 64 := by omega
          have q7 : (k : Int) - 7 < 64 := by omega
          go_wp2
          go_quiet (fail)
          go_wp2_with (go_at_call 88; refine (rotl_any _ _ _ rfl).mono ?_; rintro e w' ⟨rfl, rfl⟩)
          go_region
          go_wp2
          go_roundw
          case rel =>
            refine ⟨k + 1, by omega, by omega, by go_num, Row.to ((HR.out.drewN nq).set k _).drew (sched_store (by omega) ?_), (((HS.out.drewN nq)).other _ _ _ (by omega)).drew, ((below_drewN hnx nq).setCell (by show _ ≤ w.heap.size + 1; omega) _).drew⟩
            obtain ⟨e1, e2, e3, e4⟩ := E.out
            rw [next, if_neg (by omega), e1, e2, e3, e4, s0, s1]
            simp only [U_xor, U_shr x15 3 8 rfl, U_shr x2 10 1024 rfl]
            rw [← U_add, ← U_add, ← U_add]
            omega
          case measure => simp [intOf]; omega
        · have hke : k = 64 := by omega
          subst hke
          rw [full_whole _ (sched_length _ _)] at hrow
          have hi : (Tryd.prog.info? 135).map (·.size) = some (cellsU (sched s.data.toList 64)).length := by
            rw [show (cellsU (sched s.data.toList 64)).length = 64 by simp [cellsU, sched_length]]; kernel_rfl
          have hth : wx.there w.heap.size 0 (cellsU (sched s.data.toList 64)).toArray.size := by
            rw [show (cellsU (sched s.data.toList 64)).toArray.size = (cellsU (full [])).length by simp [cellsU, sched_length, full]]; exact hres.there
          have hld := run_loadVar_mid (P := Tryd.prog) (wx.setCells w.heap.size 0 (cellsU (sched s.data.toList 64))) w.heap.size 0 135 (cellsU (sched s.data.toList 64)) _ (World.rangeAt_setCells_same _ _ _ _ (by simpa using hth)) Tryd.underlying135 rfl hi
          have HLD := Hid.mk hld
          have HI := Hid.mk hi
          have HT := Hid.mk hth
          have HR2 := Hid.mk hrow
          clear hld hi hth hrow
          go_wp2_with (first
            | (refine wpList_load_mid rfl 135 (.tmp 3) rfl (w.heap.size + 1) 0 rfl (cellsU (sched s.data.toList 64)) _ HR2.out.range Tryd.underlying135 rfl HI.out ?_)
            | (refine wpList_store_mid rfl 135 (.tmp 2) (.tmp 86) rfl w.heap.size 0 (cellsU (sched s.data.toList 64)).toArray rfl rfl HT.out (by simpa using HI.out) (cellsU_one _) ?_))
          (try simp only [Exit.inBlock, Exit.then])
          refine bodyPost_ret (v := .agg (cellsU (sched s.data.toList 64)).toArray) ?_ rfl ⟨rfl, Below.setCells (Nat.le_refl _) _ _ hnx⟩
          exact results_cell1 rfl _ _ _ rfl HLD.out
end Go.Proofs.YtemcpjflpggaeaaDoor
