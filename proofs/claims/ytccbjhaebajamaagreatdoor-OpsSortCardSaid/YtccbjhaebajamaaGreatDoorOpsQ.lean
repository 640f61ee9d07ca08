import Derived.Test.YtccbjhaebajamaaGreatDoorSmlV
set_option linter.unusedSimpArgs false
set_option linter.unusedVariables false
namespace Go.Proofs.YtccbjhaebajamaaGreatDoor
open Go.RowKit

/-- A list of texts. -/
def StrsIs (w : World) (v : Value) (ss : List ByteArray) : Prop := ∃ a c, v = .slice a ss.length c ∧ (∀ s ∈ ss, s.size ≤ maxLen) ∧ (ss = [] ∨ ∃ b o, a = some ⟨b, o, none⟩ ∧ b < w.heap.size ∧ StrsAt w b o ss)
theorem StrsIs.below {w w' : World} {v : Value} {ss : List ByteArray} (h : StrsIs w v ss) (hb : Below w.heap.size w w') : StrsIs w' v ss := by
  obtain ⟨a, c, e, hs, h⟩ := h
  refine ⟨a, c, e, hs, ?_⟩
  rcases h with h | ⟨b, o, e2, hl, hat⟩
  · exact Or.inl h
  · exact Or.inr ⟨b, o, e2, Nat.lt_of_lt_of_le hl hb.size, hat.below hb hl⟩

set_option maxHeartbeats 400000 in
theorem short1_any (s : ByteArray) (w : World) (hs : s.size ≤ maxLen) : Calls Tryz.prog 39 #[.string s] w fun e w' => (∃ bb, e = .returned (.bool bb)) ∧ w' = w := by
  unfold maxLen at hs
  go_enter Tryz.func39, Tryz.ntmps39
  go_wp2
  all_goals go_ret
  all_goals exact ⟨⟨_, rfl⟩, rfl⟩

set_option maxHeartbeats 800000 in
theorem idxS_in (b o n c : Nat) (ss : List ByteArray) (w : World) (hn : ss.length = n) (hn' : n ≤ 100) (hs : StrsAt w b o ss) (hz : ∀ s ∈ ss, s.size ≤ maxLen) :
    Calls Tryz.prog 40 #[.slice (some ⟨b, o, none⟩) n c, .func (.func 39) #[] #[]] w fun e w' => (∃ i : Int, e = .returned (.int .i64 i)) ∧ w' = w := by
  have HN := Hid.mk hn
  clear hn
  go_enter Tryz.func40, Tryz.ntmps40
  go_wp2
  go_loop [8] (fun i => ∃ k : Nat, k ≤ n ∧ i = .int .i64 k) (fun i => n - (intOf i).toNat)
  case atStart => exact ⟨0, Nat.zero_le _, rfl⟩
  case round =>
    obtain ⟨k, hk, rfl⟩ := hrel
    by_cases hlt : k < n
    · have hk2 : k < ss.length := by have := HN.out; omega
      have d1 := hs k hk2
      have H1 := Hid.mk (short1_any ss[k] w (hz _ (List.getElem_mem hk2)))
      go_wp2_with (go_at_call 39; refine H1.out.mono ?_; rintro e w1 ⟨⟨bb, rfl⟩, rfl⟩; cases bb)
      · go_round
        case rel => exact ⟨k + 1, by omega, by go_num⟩
        case measure => simp [intOf]; omega
      · go_ret
        exact ⟨⟨_, rfl⟩, rfl⟩
    · go_wp2
      go_ret
      exact ⟨⟨_, rfl⟩, rfl⟩
set_option maxHeartbeats 400000 in
theorem idxS_nil (a : Option Addr) (c : Nat) (f : Value) (w : World) :
    Calls Tryz.prog 40 #[.slice a 0 c, f] w fun e w' => (∃ i : Int, e = .returned (.int .i64 i)) ∧ w' = w := by
  go_enter Tryz.func40, Tryz.ntmps40
  go_wp2
  go_loop [8] (fun i => i = .int .i64 0) (fun _ => 0)
  case atStart => rfl
  case round =>
    subst hrel
    go_wp2
    go_ret
    exact ⟨⟨_, rfl⟩, rfl⟩
theorem idxS_is (v : Value) (ss : List ByteArray) (w : World) (h : StrsIs w v ss) (h8 : ss.length ≤ 100) :
    Calls Tryz.prog 40 #[v, .func (.func 39) #[] #[]] w fun e w' => (∃ i : Int, e = .returned (.int .i64 i)) ∧ w' = w := by
  obtain ⟨a, c, rfl, hz, h⟩ := h
  rcases h with rfl | ⟨b, o, rfl, hl, hat⟩
  · exact idxS_nil a c _ w
  · exact idxS_in b o ss.length c ss w rfl h8 hat hz
set_option maxHeartbeats 400000 in
theorem hasS_is (v : Value) (ss : List ByteArray) (w : World) (h : StrsIs w v ss) (h8 : ss.length ≤ 100) :
    Calls Tryz.prog 13 #[v, .func (.func 39) #[] #[]] w fun e w' => (∃ bb, e = .returned (.bool bb)) ∧ w' = w := by
  have HI := Hid.mk (idxS_is v ss w h h8)
  obtain ⟨a, c, rfl, -⟩ := h
  go_enter Tryz.func13, Tryz.ntmps13
  go_wp2_with (go_at_call 40; refine HI.out.mono ?_; rintro e w1 ⟨⟨i, rfl⟩, rfl⟩)
  all_goals go_ret
  all_goals exact ⟨⟨_, rfl⟩, rfl⟩

/-- A bool is told. -/
def SomeBool (e : Ending) : Prop := ∃ bb, e = .returned (.bool bb)
/-- A job's texts are as long as may be. -/
def Jb.sized (j : Jb) : Prop := j.op.size ≤ maxLen ∧ j.left.1.size ≤ maxLen ∧ j.right.1.size ≤ maxLen ∧ j.left.2.2.2.size ≤ maxLen ∧ j.right.2.2.2.size ≤ maxLen

set_option maxRecDepth 100000 in
set_option maxHeartbeats 1600000 in
theorem short_any (j : Jb) (ss : List ByteArray) (w : World) (h : StrsIs w j.cols ss) (hsz : j.sized) (hl : ss.length ≤ maxLen) :
    Calls Tryz.prog 12 #[.agg j.cells] w fun e w' => SomeBool e ∧ Below w.heap.size w w' := by
  obtain ⟨z1, z2, z3, z4, z5⟩ := hsz
  unfold maxLen at z1 z2 z3 z4 z5 hl
  have hH := fun o (h8 : ss.length ≤ 10) => hasS_is j.cols ss (w.alloc o) (h.below (below_box _ _)) (by omega)
  have HH := Hid.mk hH
  clear hH
  obtain ⟨a, c, hc, -⟩ := h
  unfold Jb.cells
  rw [hc] at HH ⊢
  go_enter Tryz.func12, Tryz.ntmps12
  go_wp2_with (go_at_call 13; refine (HH.out _ (by omega)).mono ?_; rintro e w1 ⟨⟨bb, rfl⟩, rfl⟩)
  all_goals go_ret
  all_goals exact ⟨⟨_, rfl⟩, below_box _ _⟩
end Go.Proofs.YtccbjhaebajamaaGreatDoor
