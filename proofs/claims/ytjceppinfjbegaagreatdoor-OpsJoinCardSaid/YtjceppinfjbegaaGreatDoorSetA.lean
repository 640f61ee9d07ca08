import Derived.Test.YtjceppinfjbegaaGreatDoorOpsF
set_option linter.unusedSimpArgs false
set_option linter.unusedVariables false
namespace Go.Proofs.YtjceppinfjbegaaGreatDoor
open Go.RowKit

/-- What comes of two numbers. -/
def reckI (op : List UInt8) (a b : Int) : Int := if op = [43] then a + b else if op = [45] then a - b else a * b
/-- A number that may be. -/
def inNum (n : Int) : Prop := -1000000000 ≤ n ∧ n ≤ 1000000000
instance (n : Int) : Decidable (inNum n) := by unfold inNum; exact inferInstance

theorem mul_bound {a b : Int} (ha : inNum a) (hb : inNum b) : -1000000000000000000 ≤ a * b ∧ a * b ≤ 1000000000000000000 := by
  obtain ⟨a1, a2⟩ := ha
  obtain ⟨b1, b2⟩ := hb
  have h : (a * b).natAbs ≤ 1000000000 * 1000000000 := by
    rw [Int.natAbs_mul]
    exact Nat.mul_le_mul (by omega) (by omega)
  omega

set_option maxHeartbeats 400000 in
theorem reckon_any (op : ByteArray) (a b : Int) (w : World) (ha : inNum a) (hb : inNum b) :
    Calls Tryz.prog 119 #[.string op, .int .i64 a, .int .i64 b] w fun e w' => e = .returned (.int .i64 (reckI op.data.toList a b)) ∧ w' = w := by
  obtain ⟨m1, m2⟩ := mul_bound ha hb
  obtain ⟨a1, a2⟩ := ha
  obtain ⟨b1, b2⟩ := hb
  go_enter Tryz.func119, Tryz.ntmps119
  go_wp2
  all_goals go_ret
  all_goals refine ⟨ret_int ?_, rfl⟩
  all_goals simp_all [reckI, ByteArray.toList_eq]

set_option maxHeartbeats 400000 in
theorem number_ok (n : Int) (w : World) (h : inNum n) :
    Calls Tryz.prog 118 #[.int .i64 n] w fun e w' => e = .returned (.tuple #[aggV (1, n, ⟨#[]⟩), .nilIface]) ∧ Below w.heap.size w w' := by
  obtain ⟨h1, h2⟩ := h
  go_enter Tryz.func118, Tryz.ntmps118
  go_wp2
  refine bodyPost_ret (v := .tuple #[aggV (1, n, ⟨#[]⟩), .nilIface]) (by simp [results, Tryz.results118, go_sem]) rfl ⟨rfl, below_box _ _⟩
set_option maxHeartbeats 400000 in
theorem number_bad (n : Int) (w : World) (h : ¬ inNum n) :
    Calls Tryz.prog 118 #[.int .i64 n] w fun e w' => e = .returned (.tuple #[aggV (0, 0, ⟨#[]⟩), errV 2]) ∧ Below w.heap.size w w' := by
  unfold inNum at h
  by_cases h1 : n < -1000000000
  · clear h
    go_enter Tryz.func118, Tryz.ntmps118
    go_wp2
    refine bodyPost_ret (v := .tuple #[aggV (0, 0, ⟨#[]⟩), .iface 40 (.int .i64 2)]) (by simp [results, Tryz.results118, go_sem]) rfl ⟨rfl, below_box _ _⟩
  · have h2 : 1000000000 < n := by omega
    clear h
    go_enter Tryz.func118, Tryz.ntmps118
    go_wp2
    refine bodyPost_ret (v := .tuple #[aggV (0, 0, ⟨#[]⟩), .iface 40 (.int .i64 2)]) (by simp [results, Tryz.results118, go_sem]) rfl ⟨rfl, below_box _ _⟩

def threeOps : List ByteArray := [⟨#[43]⟩, ⟨#[45]⟩, ⟨#[42]⟩]
theorem three_at (w : World) : StrsAt (w.alloc (.cells #[.string ⟨#[43]⟩, .string ⟨#[45]⟩, .string ⟨#[42]⟩] 9)) w.heap.size 0 threeOps := by
  intro j hj
  match j, hj with
  | 0, _ => simp [threeOps]
  | 1, _ => simp [threeOps]
  | 2, _ => simp [threeOps]
  | j + 3, h => exact absurd h (by simp [threeOps])
theorem three_has (x : ByteArray) (W : World) (H : Nat) (hH : W.heap.size = H) (hx : inS threeOps x.data.toList = true) :
    Calls Tryz.prog 103 #[.slice (some ⟨H, 0, none⟩) 3 3, .string x] (W.alloc (.cells #[.string ⟨#[43]⟩, .string ⟨#[45]⟩, .string ⟨#[42]⟩] 9)) fun e w' => e = .returned (.bool true) ∧ w' = W.alloc (.cells #[.string ⟨#[43]⟩, .string ⟨#[45]⟩, .string ⟨#[42]⟩] 9) := by
  subst hH
  rw [← hx]
  exact containsS_any W.heap.size 0 3 3 threeOps x _ rfl (by decide) (three_at W)

/-- What is wrong with a job that sets a column, by one of the three operations (0: nothing). -/
def setErr (cs : List Cl) (j : Jb) (nm : List UInt8) : Int := match placeN cs nm with
  | none => 7
  | some i => if (cs[i]?.getD (⟨#[]⟩, 0)).2 = 1 ∧ kindA cs j.left = 1 ∧ kindA cs j.right = 1 then 0 else 13

set_option maxRecDepth 100000 in
set_option maxHeartbeats 800000 in
theorem wrongSet_in (b o n c cb co cc : Nat) (cs : List Cl) (nm : ByteArray) (j : Jb) (w : World) (hj : j.cols = .slice (some ⟨cb, co, none⟩) 1 cc) (hcb : cb < w.heap.size) (s0 : w.cell? ⟨cb, co, none⟩ = some (.string nm)) (hop : inS threeOps j.op.data.toList = true)
    (hn : cs.length = n) (hn' : n ≤ 100) (hb : b < w.heap.size) (hc : ColsAt w b o cs) (hx : j.left.2.2.2.size ≤ maxLen) (hx' : j.right.2.2.2.size ≤ maxLen) :
    Calls Tryz.prog 63 #[.agg j.cells, .slice (some ⟨b, o, none⟩) n c] w fun e w' => e = .returned (errV (setErr cs j nm.data.toList)) ∧ Below w.heap.size w w' := by
  have hKL := fun W (h1 : Below w.heap.size w W) => kindOf_in b o n c cs j.left W hn hn' (by have := h1.size; omega) (hc.below h1 hb) hx
  have hKR := fun W (h1 : Below w.heap.size w W) => kindOf_in b o n c cs j.right W hn hn' (by have := h1.size; omega) (hc.below h1 hb) hx'
  have hP := fun W (h1 : Below w.heap.size w W) => place_in b o n c cs nm W hn hn' (by have := h1.size; omega) (hc.below h1 hb)
  have HS := Hid.mk (fun W H hH => three_has j.op W H hH hop)
  have hJ0 : JobAt (w.alloc (.cells j.cells 28)) w.heap.size j := fun k v hk => by rw [World.cell?_alloc_at _ _ _ _ rfl]; exact hk
  unfold Jb.cells at hJ0 ⊢
  rw [hj] at hJ0 ⊢
  have HJ0 := Hid.mk hJ0
  clear hJ0
  cases gp : placeN cs nm.data.toList with
  | none =>
    have ht : setErr cs j nm.data.toList = 7 := by unfold setErr; rw [gp]
    rw [show placeI cs nm.data.toList = -1 by rw [placeI, gp]] at hP
    have HP := Hid.mk hP
    rw [ht]
    clear ht hn hc gp hP hKL hKR hop HJ0
    go_enter Tryz.func63, Tryz.ntmps63
    go_wp2_with (first | (go_at_call 103; refine (HS.out _ _ (by simp)).mono ?_; rintro e w1 ⟨rfl, rfl⟩) | (go_at_call 71; refine (HP.out _ (bel_box (below_box _ _) _)).mono ?_; rintro e w2 ⟨rfl, hb2⟩))
    go_ret
    exact ⟨rfl, bel_then (bel_box (below_box _ _) _) hb2⟩
  | some i =>
    have hil := place_some gp
    rw [show placeI cs nm.data.toList = (i : Int) by rw [placeI, gp]] at hP
    have hin : (i : Int) < (n : Int) := by omega
    have ht : setErr cs j nm.data.toList = if cs[i].2 = 1 ∧ kindA cs j.left = 1 ∧ kindA cs j.right = 1 then 0 else 13 := by
      unfold setErr; rw [gp]
      simp only [List.getElem?_eq_getElem hil, Option.getD_some]
    have hd := (hc i hil).2
    rw [ht]
    have HP := Hid.mk hP
    clear ht hn gp hP hop
    generalize cs[i] = ci at *
    obtain ⟨kl, hkl⟩ : ∃ k, kindA cs j.left = k := ⟨_, rfl⟩
    obtain ⟨kr, hkr⟩ : ∃ k, kindA cs j.right = k := ⟨_, rfl⟩
    rw [hkl] at hKL ⊢
    rw [hkr] at hKR ⊢
    have HKL := Hid.mk hKL
    have HKR := Hid.mk hKR
    clear hkl hkr hKL hKR
    clear HJ0 hc
    obtain ⟨kc, hkc⟩ : ∃ k, ci.2 = k := ⟨_, rfl⟩
    rw [hkc] at hd ⊢
    clear hkc
    by_cases g1 : kc = 1
    · subst g1
      by_cases g2 : kl = 1
      · subst g2
        by_cases g3 : kr = 1
        · subst g3
          rw [if_pos ⟨rfl, rfl, rfl⟩]
          go_enter Tryz.func63, Tryz.ntmps63
          go_wp2_with (first | (go_at_call 103; refine (HS.out _ _ (by simp)).mono ?_; rintro e w1 ⟨rfl, rfl⟩) | (go_at_call 71; refine (HP.out _ (bel_box (below_box _ _) _)).mono ?_; rintro e w2 ⟨rfl, hb2⟩; have hb02 := bel_then (bel_box (below_box _ _) _) hb2; have hz2 : w.heap.size < w2.heap.size := (by have := hb2.size; simp at this; omega); have d2 := (hb02.cell (p := ⟨b, o + i * 2 + 1, none⟩) hb).trans hd; have q6 := (hb2.cell (p := ⟨w.heap.size, 6, none⟩) (by simp; omega)).trans (show _ = some (Value.string j.left.1) by simp); have q7 := (hb2.cell (p := ⟨w.heap.size, 7, none⟩) (by simp; omega)).trans (show _ = some (Value.int .i64 j.left.2.1) by simp); have q8 := (hb2.cell (p := ⟨w.heap.size, 8, none⟩) (by simp; omega)).trans (show _ = some (Value.int .i64 j.left.2.2.1) by simp); have q9 := (hb2.cell (p := ⟨w.heap.size, 9, none⟩) (by simp; omega)).trans (show _ = some (Value.string j.left.2.2.2) by simp); have q10 := (hb2.cell (p := ⟨w.heap.size, 10, none⟩) (by simp; omega)).trans (show _ = some (Value.string j.right.1) by simp); have q11 := (hb2.cell (p := ⟨w.heap.size, 11, none⟩) (by simp; omega)).trans (show _ = some (Value.int .i64 j.right.2.1) by simp); have q12 := (hb2.cell (p := ⟨w.heap.size, 12, none⟩) (by simp; omega)).trans (show _ = some (Value.int .i64 j.right.2.2.1) by simp); have q13 := (hb2.cell (p := ⟨w.heap.size, 13, none⟩) (by simp; omega)).trans (show _ = some (Value.string j.right.2.2.2) by simp); have HB := Hid.mk (And.intro hb2 hb02); clear hb2 hb02) | (go_at_call 104; fail))
          refine (HKL.out _ HB.out.2).mono ?_
          rintro e w3 ⟨rfl, hb3⟩
          have r10 := (hb3.cell (p := ⟨w.heap.size, 10, none⟩) hz2).trans q10
          have r11 := (hb3.cell (p := ⟨w.heap.size, 11, none⟩) hz2).trans q11
          have r12 := (hb3.cell (p := ⟨w.heap.size, 12, none⟩) hz2).trans q12
          have r13 := (hb3.cell (p := ⟨w.heap.size, 13, none⟩) hz2).trans q13
          have hb03 := bel_then HB.out.2 hb3
          have HB3 := Hid.mk hb03
          clear hb3 hb03
          go_wp2_with (go_at_call 104; refine (HKR.out _ HB3.out).mono ?_; rintro e w4 ⟨rfl, hb4⟩)
          go_ret
          exact ⟨rfl, bel_then HB3.out hb4⟩
        · rw [if_neg (fun h => g3 h.2.2)]
          have g3' : (kr != 1) = true := by simp [g3]
          go_enter Tryz.func63, Tryz.ntmps63
          go_wp2_with (first | (go_at_call 103; refine (HS.out _ _ (by simp)).mono ?_; rintro e w1 ⟨rfl, rfl⟩) | (go_at_call 71; refine (HP.out _ (bel_box (below_box _ _) _)).mono ?_; rintro e w2 ⟨rfl, hb2⟩; have hb02 := bel_then (bel_box (below_box _ _) _) hb2; have hz2 : w.heap.size < w2.heap.size := (by have := hb2.size; simp at this; omega); have d2 := (hb02.cell (p := ⟨b, o + i * 2 + 1, none⟩) hb).trans hd; have q6 := (hb2.cell (p := ⟨w.heap.size, 6, none⟩) (by simp; omega)).trans (show _ = some (Value.string j.left.1) by simp); have q7 := (hb2.cell (p := ⟨w.heap.size, 7, none⟩) (by simp; omega)).trans (show _ = some (Value.int .i64 j.left.2.1) by simp); have q8 := (hb2.cell (p := ⟨w.heap.size, 8, none⟩) (by simp; omega)).trans (show _ = some (Value.int .i64 j.left.2.2.1) by simp); have q9 := (hb2.cell (p := ⟨w.heap.size, 9, none⟩) (by simp; omega)).trans (show _ = some (Value.string j.left.2.2.2) by simp); have q10 := (hb2.cell (p := ⟨w.heap.size, 10, none⟩) (by simp; omega)).trans (show _ = some (Value.string j.right.1) by simp); have q11 := (hb2.cell (p := ⟨w.heap.size, 11, none⟩) (by simp; omega)).trans (show _ = some (Value.int .i64 j.right.2.1) by simp); have q12 := (hb2.cell (p := ⟨w.heap.size, 12, none⟩) (by simp; omega)).trans (show _ = some (Value.int .i64 j.right.2.2.1) by simp); have q13 := (hb2.cell (p := ⟨w.heap.size, 13, none⟩) (by simp; omega)).trans (show _ = some (Value.string j.right.2.2.2) by simp); have HB := Hid.mk (And.intro hb2 hb02); clear hb2 hb02) | (go_at_call 104; fail))
          refine (HKL.out _ HB.out.2).mono ?_
          rintro e w3 ⟨rfl, hb3⟩
          have r10 := (hb3.cell (p := ⟨w.heap.size, 10, none⟩) hz2).trans q10
          have r11 := (hb3.cell (p := ⟨w.heap.size, 11, none⟩) hz2).trans q11
          have r12 := (hb3.cell (p := ⟨w.heap.size, 12, none⟩) hz2).trans q12
          have r13 := (hb3.cell (p := ⟨w.heap.size, 13, none⟩) hz2).trans q13
          have hb03 := bel_then HB.out.2 hb3
          have HB3 := Hid.mk hb03
          clear hb3 hb03
          go_wp2_with (go_at_call 104; refine (HKR.out _ HB3.out).mono ?_; rintro e w4 ⟨rfl, hb4⟩)
          go_ret
          exact ⟨rfl, bel_then HB3.out hb4⟩
      · rw [if_neg (fun h => g2 h.2.1)]
        have g2' : (kl != 1) = true := by simp [g2]
        go_enter Tryz.func63, Tryz.ntmps63
        go_wp2_with (first | (go_at_call 103; refine (HS.out _ _ (by simp)).mono ?_; rintro e w1 ⟨rfl, rfl⟩) | (go_at_call 71; refine (HP.out _ (bel_box (below_box _ _) _)).mono ?_; rintro e w2 ⟨rfl, hb2⟩; have hb02 := bel_then (bel_box (below_box _ _) _) hb2; have hz2 : w.heap.size < w2.heap.size := (by have := hb2.size; simp at this; omega); have d2 := (hb02.cell (p := ⟨b, o + i * 2 + 1, none⟩) hb).trans hd; have q6 := (hb2.cell (p := ⟨w.heap.size, 6, none⟩) (by simp; omega)).trans (show _ = some (Value.string j.left.1) by simp); have q7 := (hb2.cell (p := ⟨w.heap.size, 7, none⟩) (by simp; omega)).trans (show _ = some (Value.int .i64 j.left.2.1) by simp); have q8 := (hb2.cell (p := ⟨w.heap.size, 8, none⟩) (by simp; omega)).trans (show _ = some (Value.int .i64 j.left.2.2.1) by simp); have q9 := (hb2.cell (p := ⟨w.heap.size, 9, none⟩) (by simp; omega)).trans (show _ = some (Value.string j.left.2.2.2) by simp); have q10 := (hb2.cell (p := ⟨w.heap.size, 10, none⟩) (by simp; omega)).trans (show _ = some (Value.string j.right.1) by simp); have q11 := (hb2.cell (p := ⟨w.heap.size, 11, none⟩) (by simp; omega)).trans (show _ = some (Value.int .i64 j.right.2.1) by simp); have q12 := (hb2.cell (p := ⟨w.heap.size, 12, none⟩) (by simp; omega)).trans (show _ = some (Value.int .i64 j.right.2.2.1) by simp); have q13 := (hb2.cell (p := ⟨w.heap.size, 13, none⟩) (by simp; omega)).trans (show _ = some (Value.string j.right.2.2.2) by simp); have HB := Hid.mk (And.intro hb2 hb02); clear hb2 hb02) | (go_at_call 104; fail))
        refine (HKL.out _ HB.out.2).mono ?_
        rintro e w3 ⟨rfl, hb3⟩
        have hb03 := bel_then HB.out.2 hb3
        have HB3 := Hid.mk hb03
        clear hb3 hb03
        go_wp2
        go_ret
        exact ⟨rfl, HB3.out⟩
    · rw [if_neg (fun h => g1 h.1)]
      have g1' : (kc != 1) = true := by simp [g1]
      go_enter Tryz.func63, Tryz.ntmps63
      go_wp2_with (first | (go_at_call 103; refine (HS.out _ _ (by simp)).mono ?_; rintro e w1 ⟨rfl, rfl⟩) | (go_at_call 71; refine (HP.out _ (bel_box (below_box _ _) _)).mono ?_; rintro e w2 ⟨rfl, hb2⟩; have hb02 := bel_then (bel_box (below_box _ _) _) hb2; have hz2 : w.heap.size < w2.heap.size := (by have := hb2.size; simp at this; omega); have d2 := (hb02.cell (p := ⟨b, o + i * 2 + 1, none⟩) hb).trans hd; have q6 := (hb2.cell (p := ⟨w.heap.size, 6, none⟩) (by simp; omega)).trans (show _ = some (Value.string j.left.1) by simp); have q7 := (hb2.cell (p := ⟨w.heap.size, 7, none⟩) (by simp; omega)).trans (show _ = some (Value.int .i64 j.left.2.1) by simp); have q8 := (hb2.cell (p := ⟨w.heap.size, 8, none⟩) (by simp; omega)).trans (show _ = some (Value.int .i64 j.left.2.2.1) by simp); have q9 := (hb2.cell (p := ⟨w.heap.size, 9, none⟩) (by simp; omega)).trans (show _ = some (Value.string j.left.2.2.2) by simp); have q10 := (hb2.cell (p := ⟨w.heap.size, 10, none⟩) (by simp; omega)).trans (show _ = some (Value.string j.right.1) by simp); have q11 := (hb2.cell (p := ⟨w.heap.size, 11, none⟩) (by simp; omega)).trans (show _ = some (Value.int .i64 j.right.2.1) by simp); have q12 := (hb2.cell (p := ⟨w.heap.size, 12, none⟩) (by simp; omega)).trans (show _ = some (Value.int .i64 j.right.2.2.1) by simp); have q13 := (hb2.cell (p := ⟨w.heap.size, 13, none⟩) (by simp; omega)).trans (show _ = some (Value.string j.right.2.2.2) by simp); have HB := Hid.mk (And.intro hb2 hb02); clear hb2 hb02) | (go_at_call 104; fail))
      go_ret
      exact ⟨rfl, HB.out.2⟩

end Go.Proofs.YtjceppinfjbegaaGreatDoor

