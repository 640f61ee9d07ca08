import Derived.Test.YtemcpjflpggaeaaDoorDskI
set_option linter.unusedSimpArgs false
set_option linter.unusedVariables false
namespace Go.Proofs.YtemcpjflpggaeaaDoor.Dk
open Go.RowKit

theorem burnt_free {d : St} (h : d.fuse = -1) : d.burnt = d := burnt_not (by omega)
theorem live_free {d : St} (h : d.fuse = -1) : d.live = true := by simp [St.live, h]
theorem wfree (D S : Nat) (vw : Value) (d : St) (k : Nat) (s : ByteArray) (w : World) (h : At w D S vw d) (hk : k < d.sure.length) (hs : s.size ≤ 64) (hfu : d.fuse = -1) (hf : d.ws.length < 1000000) :
    Calls Tryd.prog 14 #[.pointer (some ⟨D, 0, none⟩), .int .i64 k, .string s] w fun e w' => ∃ vw', e = .returned .nilIface ∧ At w' D S vw' (d.wrote k s.data.toList) ∧ Keep (blocks D S vw) w w' ∧ (vw'.ownBlock = vw.ownBlock ∨ ∃ g, vw'.ownBlock = some g ∧ w.heap.size ≤ g) := by
  have := write_any D S vw d k s w h hk hs (live_free hfu) hf
  rw [burnt_free hfu] at this
  exact this
theorem sfree (D S : Nat) (vw : Value) (d : St) (w : World) (h : At w D S vw d) (hfu : d.fuse = -1) : Calls Tryd.prog 15 #[.pointer (some ⟨D, 0, none⟩)] w fun e w' => e = .returned .nilIface ∧ At w' D S (.slice none 0 0) (d.settled allK) ∧ Keep [D, S] w w' := by
  have := sync_live D S vw d w h (live_free hfu)
  rw [burnt_free hfu] at this
  exact this
/-- A disk of one's own; all that was there is as it was. -/
structure Mine (W w : World) (D S : Nat) (vw : Value) (d : St) : Prop where
  disk : At w D S vw d
  keep : Keep [] W w
  new : ∀ k ∈ blocks D S vw, W.heap.size ≤ k
theorem Mine.below {W w w' : World} {D S : Nat} {vw : Value} {d : St} (h : Mine W w D S vw d) (hb : Below w.heap.size w w') : Mine W w' D S vw d :=
  ⟨h.disk.below hb, h.keep.then (Keep.of (X := []) hb) (by simp), h.new⟩
theorem Mine.step {W w w' : World} {D S : Nat} {vw vw' : Value} {d d' : St} (h : Mine W w D S vw d) (ha : At w' D S vw' d') (hk : Keep (blocks D S vw) w w') (hv : vw'.ownBlock = vw.ownBlock ∨ ∃ g, vw'.ownBlock = some g ∧ w.heap.size ≤ g) : Mine W w' D S vw' d' := by
  have hw := h.keep.size
  have hnew := h.new
  refine ⟨ha, h.keep.then hk (fun y hy => Or.inr (h.new y hy)), ?_⟩
  intro k hk'
  simp only [blocks, List.mem_cons, Option.mem_toList] at hk' hnew
  rcases hk' with rfl | rfl | hk'
  · exact hnew _ (Or.inl rfl)
  · exact hnew _ (Or.inr (Or.inl rfl))
  · rcases hv with hv | ⟨g, hv, hg⟩
    · exact hnew k (Or.inr (Or.inr (hv ▸ hk')))
    · rw [hv] at hk'; injection hk' with hk'; omega
theorem Mine.settle {W w w' : World} {D S : Nat} {vw : Value} {d d' : St} (h : Mine W w D S vw d) (ha : At w' D S (.slice none 0 0) d') (hk : Keep [D, S] w w') : Mine W w' D S (.slice none 0 0) d' :=
  ⟨ha, h.keep.then hk (fun y hy => Or.inr (h.new y (by simp at hy; rcases hy with rfl | rfl <;> simp [blocks]))), fun k hk' => by rw [blocks_none] at hk'; exact h.new k (by simp at hk'; rcases hk' with rfl | rfl <;> simp [blocks])⟩
theorem mine_new {W w : World} {D S n : Nat} (h : At w D S (.slice none 0 0) (newD n)) (hb : Below W.heap.size W w) (hD : W.heap.size ≤ D) (hS : W.heap.size ≤ S) : Mine W w D S (.slice none 0 0) (newD n) :=
  ⟨h, Keep.of hb, fun k hk => by rw [blocks_none] at hk; simp at hk; rcases hk with rfl | rfl <;> assumption⟩
theorem Mine.done {W w : World} {D S : Nat} {vw : Value} {d : St} (h : Mine W w D S vw d) : Below W.heap.size W w := h.keep.below (by simp) (Nat.le_refl _)
def lo1 : St := (newD 8).wrote 3 [97]
def lo2 : St := lo1.settled allK
def lo3 : St := lo2.wrote 3 [98]
def lo4 : St := lo3.wrote 4 [99]
def lo5 : St := ⟨(lo4.settled (keptL [false, true])).sure, [], -1⟩
theorem lo_3 : tx (lo5.read 3) = tx (pad [97]) := by kernel_rfl
theorem lo_4 : tx (lo5.read 4) = tx (pad [99]) := by kernel_rfl
theorem lo_a : (tx (pad [97])).size = 64 := by kernel_rfl
theorem lo_c : (tx (pad [99])).size = 64 := by kernel_rfl
theorem lo_a2 : (tx (pad [97])).extract 0 2 = ⟨#[97, 0]⟩ := by kernel_rfl
theorem lo_c2 : (tx (pad [99])).extract 0 2 = ⟨#[99, 0]⟩ := by kernel_rfl
set_option maxRecDepth 100000 in
set_option maxHeartbeats 1600000 in
theorem lost_any (w : World) : Calls Tryd.prog 8 #[] w fun e w' => e = .returned (.bool true) ∧ Below w.heap.size w w' := by
  have HN := hid (new_any 8 w (by omega) (by omega))
  go_enter Tryd.func8, Tryd.ntmps8
  go_wp2_with (first | (go_at_call 9; fail) | (go_at_call 14; fail) | (go_at_call 15; fail) | (go_at_call 17; fail) | (go_at_call 16; fail))
  refine HN.out.mono ?_
  rintro e w1 ⟨D, S, rfl, a1, b1, hD, hS⟩
  have M1 := hid (mine_new a1 b1 hD hS)
  clear a1 b1
  go_wp2_with (first | (go_at_call 9; fail) | (go_at_call 14; fail) | (go_at_call 15; fail) | (go_at_call 17; fail) | (go_at_call 16; fail))
  refine (wfree D S _ (newD 8) 3 ⟨#[97]⟩ w1 M1.out.disk (of_decide_eq_true (by kernel_rfl)) (by decide) (by kernel_rfl) (of_decide_eq_true (by kernel_rfl))).mono ?_
  rintro e w2 ⟨vw2, rfl, a2, k2, v2⟩
  have M2 := hid (M1.out.step (d' := lo1) a2 k2 v2)
  clear a2 k2 v2
  go_wp2_with (first | (go_at_call 9; fail) | (go_at_call 14; fail) | (go_at_call 15; fail) | (go_at_call 17; fail) | (go_at_call 16; fail))
  refine (sfree D S _ lo1 w2 M2.out.disk (by kernel_rfl)).mono ?_
  rintro e w3 ⟨rfl, a3, k3⟩
  have M3 := hid (M2.out.settle (d' := lo2) a3 k3)
  clear a3 k3
  go_wp2_with (first | (go_at_call 9; fail) | (go_at_call 14; fail) | (go_at_call 15; fail) | (go_at_call 17; fail) | (go_at_call 16; fail))
  refine (wfree D S _ lo2 3 ⟨#[98]⟩ w3 M3.out.disk (of_decide_eq_true (by kernel_rfl)) (by decide) (by kernel_rfl) (of_decide_eq_true (by kernel_rfl))).mono ?_
  rintro e w4 ⟨vw4, rfl, a4, k4, v4⟩
  have M4 := hid (M3.out.step (d' := lo3) a4 k4 v4)
  clear a4 k4 v4
  go_wp2_with (first | (go_at_call 9; fail) | (go_at_call 14; fail) | (go_at_call 15; fail) | (go_at_call 17; fail) | (go_at_call 16; fail))
  refine (wfree D S _ lo3 4 ⟨#[99]⟩ w4 M4.out.disk (of_decide_eq_true (by kernel_rfl)) (by decide) (by kernel_rfl) (of_decide_eq_true (by kernel_rfl))).mono ?_
  rintro e w5 ⟨vw5, rfl, a5, k5, v5⟩
  have M5 := hid (M4.out.step (d' := lo4) a5 k5 v5)
  clear a5 k5 v5
  go_wp2_with (first | (go_at_call 9; fail) | (go_at_call 14; fail) | (go_at_call 15; fail) | (go_at_call 17; fail) | (go_at_call 16; fail))
  have M5a := hid (M5.out.below ((Below.refl _ w5).alloc (Nat.le_refl _) (.cells #[.bool false, .bool true] 4)))
  have HLS : Hid (Lst (w5.alloc (.cells #[.bool false, .bool true] 4)) (.slice (some ⟨w5.heap.size, 0, none⟩) 2 2) (bl [false, true])) := hid ⟨some ⟨w5.heap.size, 0, none⟩, 2, rfl, Or.inr ⟨w5.heap.size, 0, rfl, by simp, (Blk.new w5 [.bool false, .bool true] 4 _ rfl).range (fun j v hv => by simpa [bl] using hv)⟩⟩
  refine (crash_any D S _ _ lo4 [false, true] _ M5a.out.disk HLS.out (by decide) (Or.inr (by have := M5.out.disk.body.lt; simp [Value.ownBlock]; omega))).mono ?_
  rintro e w6 ⟨rfl, a6, k6⟩
  have M6 := hid (M5a.out.settle (d' := lo5) a6 k6)
  clear a6 k6 M5a HLS
  go_wp2_with (first | (go_at_call 9; fail) | (go_at_call 14; fail) | (go_at_call 15; fail) | (go_at_call 17; fail) | (go_at_call 16; fail))
  refine (read_any D S _ lo5 3 w6 M6.out.disk (of_decide_eq_true (by kernel_rfl))).mono ?_
  rw [lo_3]
  rintro e w7 ⟨rfl, b7⟩
  have M7 := hid (M6.out.below b7)
  clear b7
  go_wp2_with (first | (go_at_call 9; fail) | (go_at_call 14; fail) | (go_at_call 15; fail) | (go_at_call 17; fail) | (go_at_call 16; fail))
  refine (read_any D S _ lo5 4 w7 M7.out.disk (of_decide_eq_true (by kernel_rfl))).mono ?_
  rw [lo_4]
  rintro e w8 ⟨rfl, b8⟩
  have M8 := hid (M7.out.below b8)
  clear b8
  have q1 := lo_a
  have q2 := lo_c
  have q3 := lo_a2
  have q4 := lo_c2
  go_wp2
  go_ret
  exact ⟨rfl, M8.out.done⟩
end Go.Proofs.YtemcpjflpggaeaaDoor.Dk
