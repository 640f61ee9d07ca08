import Derived.Test.YtfifbnopgpffkaaGreatDoorWalkD
import Derived.Test.YtfifbnopgpffkaaGreatDoorShelf
import Derived.Lib.QuietBelow
set_option linter.unusedSimpArgs false
set_option linter.unusedVariables false
namespace Go.Proofs.YtfifbnopgpffkaaGreatDoor
open Go.RowKit

theorem bcell {W w1 : World} (hb : Below W.heap.size W w1) : (∀ b o, b < W.heap.size → w1.cell? ⟨b, o, none⟩ = W.cell? ⟨b, o, none⟩) ∧ (∀ b o, b < W.heap.size → w1.frozen? ⟨b, o, none⟩ = W.frozen? ⟨b, o, none⟩) :=
  ⟨fun b o h => hb.cell (p := ⟨b, o, none⟩) h, fun b o h => hb.frozen (p := ⟨b, o, none⟩) h⟩

theorem toBelow {P : Program} {f : FuncId} {args : Array Value} {w : World} {v : Value} (h : Calls P f args w fun e w' => e = .returned v ∧ w' = w) : Calls P f args w fun e w' => e = .returned v ∧ Below w.heap.size w w' :=
  h.mono fun _ _ x => ⟨x.1, by rw [x.2]; exact Below.refl _ _⟩

def kindB (n : Int) : Bool := n == 1 || n == 2
def colsOK (seen : List (ByteArray × Int)) : List (ByteArray × Int) → Bool
  | [] => true
  | c :: r => nameB c.1.data.toList && (kindB c.2 && (!calledB seen c.1.data.toList && colsOK (seen ++ [c]) r))
def rightColsB (cs : List (ByteArray × Int)) : Bool := decide (1 ≤ cs.length) && (decide (cs.length ≤ 6) && colsOK [] cs)

theorem colsOK_step (cs : List (ByteArray × Int)) (k : Nat) (h : k < cs.length) : colsOK (cs.take k) (cs.drop k) = (nameB cs[k].1.data.toList && (kindB cs[k].2 && (!calledB (cs.take k) cs[k].1.data.toList && colsOK (cs.take (k + 1)) (cs.drop (k + 1))))) := by
  rw [List.drop_eq_getElem_cons h, List.take_succ_eq_append_getElem h]; rfl

theorem ColsAt.take {w : World} {b o : Nat} {cs : List (ByteArray × Int)} (h : ColsAt w b o cs) (k : Nat) : ColsAt w b o (cs.take k) := fun j hj => by
  have hj' : j < cs.length := by rw [List.length_take] at hj; omega
  have := h j hj'
  rw [List.getElem_take]; exact this

theorem rkindB_any (n : Int) (w : World) : Calls Tryz.prog 66 #[.int .i64 n] w fun e w' => e = .returned (.bool (kindB n)) ∧ w' = w := rkind_any n w

set_option maxHeartbeats 1600000 in
theorem rightCols_in (b o n c : Nat) (cs : List (ByteArray × Int)) (w : World) (hn : cs.length = n) (h1 : 1 ≤ n) (h6 : n ≤ 6) (hcap : n ≤ c) (hb : b < w.heap.size) (hc : ColsAt w b o cs) (hs : ∀ x ∈ cs, x.1.size ≤ maxLen) :
    Calls Tryz.prog 41 #[.slice (some ⟨b, o, none⟩) n c] w fun e w' => e = .returned (.bool (rightColsB cs)) ∧ Below w.heap.size w w' := by
  have hr : rightColsB cs = colsOK [] cs := by simp [rightColsB, hn, h1, h6]
  have HR := Hid.mk hr
  have HN := Hid.mk hn
  clear hr hn
  have e0 : ((n : Int) == 0) = false := by simp; omega
  go_enter Tryz.func41, Tryz.ntmps41
  go_wp2
  go_loopw [15] (fun i wr => ∃ k : Nat, k ≤ n ∧ i = .int .i64 k ∧ colsOK [] cs = colsOK (cs.take k) (cs.drop k) ∧ Below w.heap.size w wr) (fun i _ => n - (intOf i).toNat)
  case atStart => exact ⟨0, Nat.zero_le _, rfl, rfl, Below.refl _ _⟩
  case round =>
    obtain ⟨k, hk, rfl, hal, hnx⟩ := hrel
    have HA := Hid.mk hal
    clear hal
    by_cases hlt : k < n
    · have hk2 : k < cs.length := by have := HN.out; omega
      obtain ⟨c1, c2⟩ := hc k hk2
      have d1 := (hnx.cell (p := ⟨b, o + k * 2, none⟩) hb).trans c1
      have d2 := (hnx.cell (p := ⟨b, o + k * 2 + 1, none⟩) hb).trans c2
      clear c1 c2
      have hbr : b < wr.heap.size := by have := hnx.size; omega
      have hsk : cs[k].1.size ≤ maxLen := hs _ (List.getElem_mem hk2)
      have hct : ColsAt wr b o (cs.take k) := (hc.below hnx hb).take k
      have hlk : (cs.take k).length = k := by rw [List.length_take]; omega
      have HLK := Hid.mk hlk
      clear hlk
      have HS := Hid.mk (colsOK_step cs k hk2)
      have k1 := cell_regrown (w := wr.alloc (.cells #[.string cs[k].1, .int .i64 cs[k].2] 48)) (a := ⟨wr.heap.size, 0, none⟩) (v := .string cs[k].1) (by simp)
      have k2 := cell_regrown (w := wr.alloc (.cells #[.string cs[k].1, .int .i64 cs[k].2] 48)) (a := ⟨wr.heap.size, 1, none⟩) (v := .int .i64 cs[k].2) (by simp)
      have cN : ∀ d os, _ := fun d os => Calls.regrown_of (name_any cs[k].1 (Sort.grow (redrawn (wr.alloc (.cells #[.string cs[k].1, .int .i64 cs[k].2] 48)) d) os) hsk)
      have cK : ∀ d os, _ := fun d os => Calls.regrown_of (toBelow (rkindB_any cs[k].2 (Sort.grow (redrawn (wr.alloc (.cells #[.string cs[k].1, .int .i64 cs[k].2] 48)) d) os)))
      have cC : ∀ d os, _ := fun d os => Calls.regrown_of (called_any b o k c (cs.take k) cs[k].1 (Sort.grow (redrawn (wr.alloc (.cells #[.string cs[k].1, .int .i64 cs[k].2] 48)) d) os) HLK.out (by omega) (by simp [Sort.grow, redrawn]; omega) ((hct.below (below_box _ _) hbr).below (below_regrown _ _ _) (by simp; omega)))
      cases g1 : nameB cs[k].1.data.toList
      · simp only [g1] at cN
        go_wp2
        refine wp_region_quiet_below (by kernel_rfl) (by kernel_rfl) ?_
        repeat (any_goals (first | go_big_quiet_step (first | exact cN _ _ | exact cK _ _ | exact cC _ _) | quiet_step (first | exact cN _ _ | exact cK _ _ | exact cC _ _)))
        refine wpQuiet_nil ?_
        intro _ hw'
        obtain ⟨⟨dq, osq⟩, hw''⟩ := hw'
        subst hw''
        go_wp2
        go_ret
        exact ⟨ret_bool (by rw [HR.out, HA.out, HS.out, g1]; rfl), hnx.trans ((below_box _ _).mono hnx.size |>.trans ((below_regrown _ dq osq).mono (by simp; have := hnx.size; omega)))⟩
      · simp only [g1] at cN
        cases g2 : kindB cs[k].2
        · simp only [g2] at cK
          go_wp2
          refine wp_region_quiet_below (by kernel_rfl) (by kernel_rfl) ?_
          repeat (any_goals (first | go_big_quiet_step (first | exact cN _ _ | exact cK _ _ | exact cC _ _) | quiet_step (first | exact cN _ _ | exact cK _ _ | exact cC _ _)))
          refine wpQuiet_nil ?_
          intro _ hw'
          obtain ⟨⟨dq, osq⟩, hw''⟩ := hw'
          subst hw''
          go_wp2
          go_ret
          exact ⟨ret_bool (by rw [HR.out, HA.out, HS.out, g1, g2]; rfl), hnx.trans ((below_box _ _).mono hnx.size |>.trans ((below_regrown _ dq osq).mono (by simp; have := hnx.size; omega)))⟩
        · simp only [g2] at cK
          have hsl : (k : Int) ≤ (c : Int) := by omega
          cases g3 : calledB (cs.take k) cs[k].1.data.toList
          all_goals simp only [g3] at cC
          all_goals
            go_wp2
            refine wp_region_quiet_below (by kernel_rfl) (by kernel_rfl) ?_
            repeat (any_goals (first | go_big_quiet_step (first | exact cN _ _ | exact cK _ _ | exact cC _ _) | quiet_step (first | exact cN _ _ | exact cK _ _ | exact cC _ _)))
            refine wpQuiet_nil ?_
            intro _ hw'
            obtain ⟨⟨dq, osq⟩, hw''⟩ := hw'
            subst hw''
          · go_wp2
            go_roundw
            case rel => exact ⟨k + 1, by omega, by go_num, by rw [HA.out, HS.out, g1, g2, g3]; rfl, hnx.trans ((below_box _ _).mono hnx.size |>.trans ((below_regrown _ dq osq).mono (by simp; have := hnx.size; omega)))⟩
            case measure => simp [intOf]; omega
          · go_wp2
            go_ret
            exact ⟨ret_bool (by rw [HR.out, HA.out, HS.out, g1, g2, g3]; rfl), hnx.trans ((below_box _ _).mono hnx.size |>.trans ((below_regrown _ dq osq).mono (by simp; have := hnx.size; omega)))⟩
    · go_wp2
      go_ret
      exact ⟨ret_bool (by rw [HR.out, HA.out, List.drop_eq_nil_of_le (by have := HN.out; omega)]; rfl), hnx⟩
end Go.Proofs.YtfifbnopgpffkaaGreatDoor
