import Derived.Test.YtjceppinfjbegaaGreatDoorOpsE
set_option linter.unusedSimpArgs false
set_option linter.unusedVariables false
namespace Go.Proofs.YtjceppinfjbegaaGreatDoor
open Go.RowKit

def StrsAt (w : World) (b o : Nat) (ss : List ByteArray) : Prop := ∀ (j : Nat) (h : j < ss.length), w.cell? ⟨b, o + j, none⟩ = some (.string ss[j])
theorem StrsAt.below {w w' : World} {B b o : Nat} {ss : List ByteArray} (h : StrsAt w b o ss) (hb : Below B w w') (hlt : b < B) : StrsAt w' b o ss := fun j hj => (hb.cell (p := ⟨b, o + j, none⟩) hlt).trans (h j hj)
def inS (ss : List ByteArray) (x : List UInt8) : Bool := ss.any fun s => s.data.toList == x

set_option maxHeartbeats 800000 in
theorem indexS_any (b o n c : Nat) (ss : List ByteArray) (x : ByteArray) (w : World) (hn : ss.length = n) (hn' : n ≤ 100) (hs : StrsAt w b o ss) :
    Calls Tryz.prog 134 #[.slice (some ⟨b, o, none⟩) n c, .string x] w fun e w' => (∃ i : Int, e = .returned (.int .i64 i) ∧ (0 ≤ i ↔ inS ss x.data.toList = true) ∧ -1 ≤ i) ∧ w' = w := by
  have HN := Hid.mk hn
  clear hn
  go_enter Tryz.func134, Tryz.ntmps134
  go_wp2
  go_loop [8] (fun i => ∃ k : Nat, k ≤ n ∧ i = .int .i64 k ∧ (∀ j (h : j < ss.length), j < k → (ss[j].data.toList == x.data.toList) = false)) (fun i => n - (intOf i).toNat)
  case atStart => exact ⟨0, Nat.zero_le _, rfl, fun j _ h => absurd h (by omega)⟩
  case round =>
    obtain ⟨k, hk, rfl, hal⟩ := hrel
    have HA := Hid.mk hal
    clear hal
    by_cases hlt : k < n
    · have hk2 : k < ss.length := by have := HN.out; omega
      have d1 := hs k hk2
      cases hp : (x.toList == ss[k].toList)
      · go_wp2
        go_round
        case rel =>
          refine ⟨k + 1, by omega, by go_num, fun j h hj => ?_⟩
          rcases Nat.lt_or_ge j k with hjk | hjk
          · exact HA.out j h hjk
          · obtain rfl : j = k := by omega
            rw [ByteArray.toList_eq, ByteArray.toList_eq] at hp
            rw [beq_eq_false_iff_ne] at hp ⊢
            exact fun e => hp e.symm
        case measure => simp [intOf]; omega
      · go_wp2
        go_ret
        refine ⟨⟨(k : Int), rfl, ?_, by omega⟩, rfl⟩
        refine ⟨fun _ => ?_, fun _ => by omega⟩
        rw [ByteArray.toList_eq, ByteArray.toList_eq] at hp
        rw [inS, List.any_eq_true]
        exact ⟨ss[k], List.getElem_mem hk2, by rw [beq_iff_eq] at hp ⊢; exact hp.symm⟩
    · go_wp2
      go_ret
      refine ⟨⟨-1, rfl, ?_, by omega⟩, rfl⟩
      refine ⟨fun h => absurd h (by omega), fun h => ?_⟩
      rw [inS, List.any_eq_true] at h
      obtain ⟨s, hs', he⟩ := h
      obtain ⟨j, hj, rfl⟩ := List.mem_iff_getElem.1 hs'
      have := HA.out j hj (by have := HN.out; omega)
      rw [this] at he
      cases he
set_option maxHeartbeats 800000 in
theorem containsS_any (b o n c : Nat) (ss : List ByteArray) (x : ByteArray) (w : World) (hn : ss.length = n) (hn' : n ≤ 100) (hs : StrsAt w b o ss) :
    Calls Tryz.prog 103 #[.slice (some ⟨b, o, none⟩) n c, .string x] w fun e w' => e = .returned (.bool (inS ss x.data.toList)) ∧ w' = w := by
  have HI := Hid.mk (indexS_any b o n c ss x w hn hn' hs)
  clear hn hs
  go_enter Tryz.func103, Tryz.ntmps103
  go_wp2_with (go_at_call 134; refine HI.out.mono ?_; rintro e w1 ⟨⟨i, rfl, hi1, hi2⟩, rfl⟩)
  all_goals go_ret
  all_goals refine ⟨ret_bool ?_, rfl⟩
  all_goals
    rw [Bool.eq_iff_iff, ← hi1]
    try simp

def sixOps : List ByteArray := [⟨#[61]⟩, ⟨#[60, 62]⟩, ⟨#[60]⟩, ⟨#[60, 61]⟩, ⟨#[62]⟩, ⟨#[62, 61]⟩]
/-- What is wrong with a job that holds a column against something (0: nothing). -/
def testErr (cs : List Cl) (j : Jb) : Int := if inS sixOps j.op.data.toList = false ∨ j.left.1.data.toList = [] then 1 else match placeN cs j.left.1.data.toList with
  | none => 7
  | some i => if kindA cs j.right = (cs[i]?.getD (⟨#[]⟩, 0)).2 then 0 else 13
def errV (n : Int) : Value := if n = 0 then .nilIface else .iface 40 (.int .i64 n)
theorem six_at (w : World) : StrsAt (w.alloc (.cells #[.string ⟨#[61]⟩, .string ⟨#[60, 62]⟩, .string ⟨#[60]⟩, .string ⟨#[60, 61]⟩, .string ⟨#[62]⟩, .string ⟨#[62, 61]⟩] 9)) w.heap.size 0 sixOps := by
  intro j hj
  match j, hj with
  | 0, _ => simp [sixOps]
  | 1, _ => simp [sixOps]
  | 2, _ => simp [sixOps]
  | 3, _ => simp [sixOps]
  | 4, _ => simp [sixOps]
  | 5, _ => simp [sixOps]
  | j + 6, h => exact absurd h (by simp [sixOps])
theorem six_has (x : ByteArray) (W : World) (H : Nat) (hH : W.heap.size = H) :
    Calls Tryz.prog 103 #[.slice (some ⟨H, 0, none⟩) 6 6, .string x] (W.alloc (.cells #[.string ⟨#[61]⟩, .string ⟨#[60, 62]⟩, .string ⟨#[60]⟩, .string ⟨#[60, 61]⟩, .string ⟨#[62]⟩, .string ⟨#[62, 61]⟩] 9)) fun e w' => e = .returned (.bool (inS sixOps x.data.toList)) ∧ w' = W.alloc (.cells #[.string ⟨#[61]⟩, .string ⟨#[60, 62]⟩, .string ⟨#[60]⟩, .string ⟨#[60, 61]⟩, .string ⟨#[62]⟩, .string ⟨#[62, 61]⟩] 9) := by
  subst hH
  exact containsS_any W.heap.size 0 6 6 sixOps x _ rfl (by decide) (six_at W)

set_option maxRecDepth 100000 in
set_option maxHeartbeats 600000 in
theorem wrongTest_in (b o n c : Nat) (cs : List Cl) (j : Jb) (w : World) (hn : cs.length = n) (hn' : n ≤ 100) (hb : b < w.heap.size) (hc : ColsAt w b o cs) (hx : j.right.2.2.2.size ≤ maxLen) :
    Calls Tryz.prog 62 #[.agg j.cells, .slice (some ⟨b, o, none⟩) n c] w fun e w' => e = .returned (errV (testErr cs j)) ∧ Below w.heap.size w w' := by
  have HK := Hid.mk (fun W (h1 : Below w.heap.size w W) => kindOf_in b o n c cs j.right W hn hn' (by have := h1.size; omega) (hc.below h1 hb) hx)
  have HP := Hid.mk (fun W (h1 : Below w.heap.size w W) => place_in b o n c cs j.left.1 W hn hn' (by have := h1.size; omega) (hc.below h1 hb))
  have HS := Hid.mk (six_has j.op)
  unfold Jb.cells
  cases g : inS sixOps j.op.data.toList
  · have ht : testErr cs j = 1 := by unfold testErr; rw [if_pos (Or.inl g)]
    rw [g] at HS
    rw [ht]
    clear ht g hn hc
    go_enter Tryz.func62, Tryz.ntmps62
    go_wp2_with (go_at_call 103; refine (HS.out _ _ (by simp)).mono ?_; rintro e w1 ⟨rfl, rfl⟩)
    go_ret
    exact ⟨rfl, bel_box (below_box _ _) _⟩
  · rw [g] at HS
    by_cases h0 : j.left.1.data.toList = []
    · have he : j.left.1.toList.isEmpty = true := by rw [ByteArray.toList_eq, h0]; rfl
      have ht : testErr cs j = 1 := by unfold testErr; rw [if_pos (Or.inr h0)]
      rw [ht]
      clear ht g hn hc h0
      go_enter Tryz.func62, Tryz.ntmps62
      go_wp2_with (go_at_call 103; refine (HS.out _ _ (by simp)).mono ?_; rintro e w1 ⟨rfl, rfl⟩)
      go_ret
      exact ⟨rfl, bel_box (below_box _ _) _⟩
    · have he : j.left.1.toList.isEmpty = false := by
        rw [ByteArray.toList_eq]
        cases h : j.left.1.data.toList with
        | nil => exact absurd h h0
        | cons a q => rfl
      cases gp : placeN cs j.left.1.data.toList with
      | none =>
        have ht : testErr cs j = 7 := by unfold testErr; rw [if_neg (by simp [g, h0]), gp]
        rw [show placeI cs j.left.1.data.toList = -1 by rw [placeI, gp]] at HP
        rw [ht]
        clear ht g hn hc h0 gp
        go_enter Tryz.func62, Tryz.ntmps62
        go_wp2_with (first | (go_at_call 103; refine (HS.out _ _ (by simp)).mono ?_; rintro e w1 ⟨rfl, rfl⟩) | (go_at_call 71; refine (HP.out _ (bel_box (below_box _ _) _)).mono ?_; rintro e w2 ⟨rfl, hb2⟩))
        go_ret
        exact ⟨rfl, bel_then (bel_box (below_box _ _) _) hb2⟩
      | some i =>
        have hil := place_some gp
        rw [show placeI cs j.left.1.data.toList = (i : Int) by rw [placeI, gp]] at HP
        have hin : (i : Int) < (n : Int) := by omega
        have ht : testErr cs j = if kindA cs j.right = cs[i].2 then 0 else 13 := by
          unfold testErr; rw [if_neg (by simp [g, h0]), gp]
          simp only [List.getElem?_eq_getElem hil, Option.getD_some]
        have hd := (hc i hil).2
        rw [ht]
        clear ht g hn h0 gp
        generalize cs[i] = ci at *
        obtain ⟨kd, hkd⟩ : ∃ k, kindA cs j.right = k := ⟨_, rfl⟩
        rw [hkd] at HK ⊢
        clear hkd
        by_cases hkc : kd = ci.2
        · rw [if_pos hkc]
          have hkc' : (kd != ci.2) = false := by simp [hkc]
          clear hkc
          go_enter Tryz.func62, Tryz.ntmps62
          go_wp2_with (first | (go_at_call 103; refine (HS.out _ _ (by simp)).mono ?_; rintro e w1 ⟨rfl, rfl⟩) | (go_at_call 71; refine (HP.out _ (bel_box (below_box _ _) _)).mono ?_; rintro e w2 ⟨rfl, hb2⟩))
          have hb02 := bel_then (bel_box (below_box _ _) _) hb2
          have e10 := cell_regrown ((hb2.cell (p := ⟨w.heap.size, 10, none⟩) (by simp; omega)).trans (show _ = some (Value.string j.right.1) by simp))
          have e11 := cell_regrown ((hb2.cell (p := ⟨w.heap.size, 11, none⟩) (by simp; omega)).trans (show _ = some (Value.int .i64 j.right.2.1) by simp))
          have e12 := cell_regrown ((hb2.cell (p := ⟨w.heap.size, 12, none⟩) (by simp; omega)).trans (show _ = some (Value.int .i64 j.right.2.2.1) by simp))
          have e13 := cell_regrown ((hb2.cell (p := ⟨w.heap.size, 13, none⟩) (by simp; omega)).trans (show _ = some (Value.string j.right.2.2.2) by simp))
          have ed := cell_regrown ((hb02.cell (p := ⟨b, o + i * 2 + 1, none⟩) hb).trans hd)
          have C1 : ∀ d os, _ := fun d os => Calls.regrown_of (HK.out (Sort.grow (redrawn w2 d) os) (bel_then hb02 (below_regrown _ _ _)))
          have HB := Hid.mk hb02
          clear HS HP HK hb02 hb2
          refine wp_region_quiet_below (by kernel_rfl) (by kernel_rfl) ?_
          repeat (any_goals (first | go_big_quiet_step (exact C1 _ _) | quiet_step (exact C1 _ _)))
          refine wpQuiet_nil ?_
          intro _ hw'
          obtain ⟨⟨dq, osq⟩, hw''⟩ := hw'
          subst hw''
          clear e10 e11 e12 e13 ed C1
          go_wp2
          go_ret
          exact ⟨rfl, bel_then HB.out (below_regrown _ _ _)⟩
        · rw [if_neg hkc]
          have hkc' : (kd != ci.2) = true := by simp [hkc]
          clear hkc
          go_enter Tryz.func62, Tryz.ntmps62
          go_wp2_with (first | (go_at_call 103; refine (HS.out _ _ (by simp)).mono ?_; rintro e w1 ⟨rfl, rfl⟩) | (go_at_call 71; refine (HP.out _ (bel_box (below_box _ _) _)).mono ?_; rintro e w2 ⟨rfl, hb2⟩))
          have hb02 := bel_then (bel_box (below_box _ _) _) hb2
          have e10 := cell_regrown ((hb2.cell (p := ⟨w.heap.size, 10, none⟩) (by simp; omega)).trans (show _ = some (Value.string j.right.1) by simp))
          have e11 := cell_regrown ((hb2.cell (p := ⟨w.heap.size, 11, none⟩) (by simp; omega)).trans (show _ = some (Value.int .i64 j.right.2.1) by simp))
          have e12 := cell_regrown ((hb2.cell (p := ⟨w.heap.size, 12, none⟩) (by simp; omega)).trans (show _ = some (Value.int .i64 j.right.2.2.1) by simp))
          have e13 := cell_regrown ((hb2.cell (p := ⟨w.heap.size, 13, none⟩) (by simp; omega)).trans (show _ = some (Value.string j.right.2.2.2) by simp))
          have ed := cell_regrown ((hb02.cell (p := ⟨b, o + i * 2 + 1, none⟩) hb).trans hd)
          have C1 : ∀ d os, _ := fun d os => Calls.regrown_of (HK.out (Sort.grow (redrawn w2 d) os) (bel_then hb02 (below_regrown _ _ _)))
          have HB := Hid.mk hb02
          clear HS HP HK hb02 hb2
          refine wp_region_quiet_below (by kernel_rfl) (by kernel_rfl) ?_
          repeat (any_goals (first | go_big_quiet_step (exact C1 _ _) | quiet_step (exact C1 _ _)))
          refine wpQuiet_nil ?_
          intro _ hw'
          obtain ⟨⟨dq, osq⟩, hw''⟩ := hw'
          subst hw''
          clear e10 e11 e12 e13 ed C1
          go_wp2
          go_ret
          exact ⟨rfl, bel_then HB.out (below_regrown _ _ _)⟩
end Go.Proofs.YtjceppinfjbegaaGreatDoor

