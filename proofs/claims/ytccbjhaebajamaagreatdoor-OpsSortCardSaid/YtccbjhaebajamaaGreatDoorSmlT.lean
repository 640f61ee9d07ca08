import Derived.Test.YtccbjhaebajamaaGreatDoorOpsP
set_option linter.unusedSimpArgs false
set_option linter.unusedVariables false
namespace Go.Proofs.YtccbjhaebajamaaGreatDoor
open Go.RowKit

def longC (c : Cl) : Bool := decide (40 < c.1.size)
def longV (v : Vl) : Bool := decide (40 < v.2.2.size)
def longR (r : List Vl) : Bool := decide (8 < r.length) || r.any longV
def smallB (cs : List Cl) (rs : List (List Vl)) : Bool := !(decide (8 < cs.length) || (decide (65 < rs.length) || cs.any longC)) && !(rs.any longR)

set_option maxHeartbeats 400000 in
theorem small1_any (c : Cl) (w : World) (hs : c.1.size ≤ maxLen) : Calls Tryz.prog 26 #[.agg #[.string c.1, .int .i64 c.2]] w fun e w' => e = .returned (.bool (longC c)) ∧ Below w.heap.size w w' := by
  unfold maxLen at hs
  go_enter Tryz.func26, Tryz.ntmps26
  go_wp2
  all_goals go_ret
  all_goals refine ⟨ret_bool ?_, below_box _ _⟩
  all_goals (simp [longC]; omega)

set_option maxHeartbeats 400000 in
theorem small21_any (v : Vl) (w : World) (hs : v.2.2.size ≤ maxLen) : Calls Tryz.prog 30 #[.agg #[.int .i64 v.1, .int .i64 v.2.1, .string v.2.2]] w fun e w' => e = .returned (.bool (longV v)) ∧ Below w.heap.size w w' := by
  unfold maxLen at hs
  go_enter Tryz.func30, Tryz.ntmps30
  go_wp2
  all_goals go_ret
  all_goals refine ⟨ret_bool ?_, below_box _ _⟩
  all_goals (simp [longV]; omega)

theorem any_step {α : Type} {p : α → Bool} {l : List α} {k : Nat} (h : k < l.length) (ht : (l.take k).any p = false) (hp : p l[k] = false) : (l.take (k + 1)).any p = false := by
  rw [List.take_succ_eq_append_getElem h, List.any_append, ht]; simp [hp]
theorem any_hit {α : Type} {p : α → Bool} {l : List α} {k : Nat} (h : k < l.length) (hp : p l[k] = true) : l.any p = true := by
  rw [List.any_eq_true]; exact ⟨_, List.getElem_mem h, hp⟩

def foundI (r : Int) (b : Bool) : Prop := -1 ≤ r ∧ r ≤ 1000 ∧ (decide (0 ≤ r)) = b

set_option maxHeartbeats 800000 in
theorem idxC_any (b o c n : Nat) (cs : List Cl) (w : World) (hn : cs.length = n) (h8 : n ≤ 100) (hb : b < w.heap.size) (hc : ColsAt w b o cs) (hs : ∀ x ∈ cs, x.1.size ≤ maxLen) :
    Calls Tryz.prog 17 #[.slice (some ⟨b, o, none⟩) n c, .func (.func 26) #[] #[]] w fun e w' => ∃ r : Int, e = .returned (.int .i64 r) ∧ foundI r (cs.any longC) ∧ Below w.heap.size w w' := by
  have HN := Hid.mk hn
  clear hn
  go_enter Tryz.func17, Tryz.ntmps17
  go_wp2
  go_loopw [8] (fun i wr => ∃ k : Nat, k ≤ n ∧ i = .int .i64 k ∧ (cs.take k).any longC = false ∧ Below w.heap.size w wr) (fun i _ => n - (intOf i).toNat)
  case atStart => exact ⟨0, Nat.zero_le _, rfl, rfl, Below.refl _ _⟩
  case round =>
    obtain ⟨k, hk, rfl, hal, hnx⟩ := hrel
    have HA := Hid.mk hal
    clear hal
    by_cases hlt : k < n
    · have hk2 : k < cs.length := by have := HN.out; omega
      obtain ⟨c1, c2⟩ := hc k hk2
      have d1 := (hnx.cell (p := ⟨b, o + k * 2, none⟩) hb).trans c1
      have d2 := (hnx.cell (p := ⟨b, o + k * 2 + 1, none⟩) hb).trans c2
      clear c1 c2
      have hq := fun ww => small1_any cs[k] ww (hs _ (List.getElem_mem hk2))
      have HQ := Hid.mk hq
      clear hq
      cases hp : longC cs[k]
      all_goals have HP := Hid.mk hp
      all_goals rw [hp] at HQ
      · go_wp2_with (go_at_call 26; refine (HQ.out _).mono ?_; rintro e w2 ⟨rfl, hb2⟩)
        go_roundw
        case rel => exact ⟨k + 1, by omega, by go_num, any_step hk2 HA.out HP.out, hnx.trans (hb2.mono hnx.size)⟩
        case measure => simp [intOf]; omega
      · go_wp2_with (go_at_call 26; refine (HQ.out _).mono ?_; rintro e w2 ⟨rfl, hb2⟩)
        go_ret
        exact ⟨k, rfl, ⟨by omega, by omega, by rw [any_hit hk2 HP.out]; simp⟩, hnx.trans (hb2.mono hnx.size)⟩
    · go_wp2
      go_ret
      exact ⟨-1, rfl, ⟨by omega, by omega, by have := HA.out; rw [List.take_of_length_le (by have := HN.out; omega)] at this; rw [this]; rfl⟩, hnx⟩

set_option maxHeartbeats 400000 in
theorem idxC_nil (a : Option Addr) (c : Nat) (f : Value) (w : World) :
    Calls Tryz.prog 17 #[.slice a 0 c, f] w fun e w' => ∃ r : Int, e = .returned (.int .i64 r) ∧ foundI r false ∧ Below w.heap.size w w' := by
  go_enter Tryz.func17, Tryz.ntmps17
  go_wp2
  go_loopw [8] (fun i wr => i = .int .i64 0 ∧ wr = w) (fun i _ => 0)
  case atStart => exact ⟨rfl, rfl⟩
  case round =>
    obtain ⟨rfl, rfl⟩ := hrel
    go_wp2
    go_ret
    exact ⟨-1, rfl, ⟨by omega, by omega, rfl⟩, Below.refl _ _⟩
theorem idxC_is (v : Value) (cs : List Cl) (w : World) (h : ColsIs w v cs) (h8 : cs.length ≤ 8) :
    Calls Tryz.prog 17 #[v, .func (.func 26) #[] #[]] w fun e w' => ∃ r : Int, e = .returned (.int .i64 r) ∧ foundI r (cs.any longC) ∧ Below w.heap.size w w' := by
  obtain ⟨a, c, rfl, -, hs, rfl | ⟨b, o, rfl, hl, hat⟩⟩ := h
  · exact idxC_nil _ _ _ _
  · exact idxC_any b o c cs.length cs w rfl (by omega) hl hat hs

set_option maxHeartbeats 400000 in
theorem hasC_any (v : Value) (cs : List Cl) (w : World) (h : ColsIs w v cs) (h8 : cs.length ≤ 8) :
    Calls Tryz.prog 25 #[v, .func (.func 26) #[] #[]] w fun e w' => e = .returned (.bool (cs.any longC)) ∧ Below w.heap.size w w' := by
  have HQ := Hid.mk (idxC_is v cs w h h8)
  obtain ⟨a, c, rfl, -, -, -⟩ := h
  go_enter Tryz.func25, Tryz.ntmps25
  go_wp2_with (go_at_call 17; refine HQ.out.mono ?_; rintro e w2 ⟨r, rfl, hf, hb2⟩; have HF := Hid.mk hf; clear hf)
  all_goals go_ret
  all_goals exact ⟨ret_bool (by rw [← HF.out.2.2]), hb2⟩

set_option maxHeartbeats 800000 in
theorem idxV_any (b o c n : Nat) (cs : List Vl) (w : World) (hn : cs.length = n) (h8 : n ≤ 100) (hb : b < w.heap.size) (hc : ValsAt w b o cs) (hs : ∀ x ∈ cs, x.2.2.size ≤ maxLen) :
    Calls Tryz.prog 43 #[.slice (some ⟨b, o, none⟩) n c, .func (.func 30) #[] #[]] w fun e w' => ∃ r : Int, e = .returned (.int .i64 r) ∧ foundI r (cs.any longV) ∧ Below w.heap.size w w' := by
  have HN := Hid.mk hn
  clear hn
  go_enter Tryz.func43, Tryz.ntmps43
  go_wp2
  go_loopw [8] (fun i wr => ∃ k : Nat, k ≤ n ∧ i = .int .i64 k ∧ (cs.take k).any longV = false ∧ Below w.heap.size w wr) (fun i _ => n - (intOf i).toNat)
  case atStart => exact ⟨0, Nat.zero_le _, rfl, rfl, Below.refl _ _⟩
  case round =>
    obtain ⟨k, hk, rfl, hal, hnx⟩ := hrel
    have HA := Hid.mk hal
    clear hal
    by_cases hlt : k < n
    · have hk2 : k < cs.length := by have := HN.out; omega
      obtain ⟨c1, c2, c3⟩ := hc k hk2
      have d1 := (hnx.cell (p := ⟨b, o + k * 3, none⟩) hb).trans c1
      have d2 := (hnx.cell (p := ⟨b, o + k * 3 + 1, none⟩) hb).trans c2
      have d3 := (hnx.cell (p := ⟨b, o + k * 3 + 2, none⟩) hb).trans c3
      clear c1 c2 c3
      have hq := fun ww => small21_any cs[k] ww (hs _ (List.getElem_mem hk2))
      have HQ := Hid.mk hq
      clear hq
      cases hp : longV cs[k]
      all_goals have HP := Hid.mk hp
      all_goals rw [hp] at HQ
      · go_wp2_with (go_at_call 30; refine (HQ.out _).mono ?_; rintro e w2 ⟨rfl, hb2⟩)
        go_roundw
        case rel => exact ⟨k + 1, by omega, by go_num, any_step hk2 HA.out HP.out, hnx.trans (hb2.mono hnx.size)⟩
        case measure => simp [intOf]; omega
      · go_wp2_with (go_at_call 30; refine (HQ.out _).mono ?_; rintro e w2 ⟨rfl, hb2⟩)
        go_ret
        exact ⟨k, rfl, ⟨by omega, by omega, by rw [any_hit hk2 HP.out]; simp⟩, hnx.trans (hb2.mono hnx.size)⟩
    · go_wp2
      go_ret
      exact ⟨-1, rfl, ⟨by omega, by omega, by have := HA.out; rw [List.take_of_length_le (by have := HN.out; omega)] at this; rw [this]; rfl⟩, hnx⟩
set_option maxHeartbeats 400000 in
theorem idxV_nil (a : Option Addr) (c : Nat) (f : Value) (w : World) :
    Calls Tryz.prog 43 #[.slice a 0 c, f] w fun e w' => ∃ r : Int, e = .returned (.int .i64 r) ∧ foundI r false ∧ Below w.heap.size w w' := by
  go_enter Tryz.func43, Tryz.ntmps43
  go_wp2
  go_loopw [8] (fun i wr => i = .int .i64 0 ∧ wr = w) (fun i _ => 0)
  case atStart => exact ⟨rfl, rfl⟩
  case round =>
    obtain ⟨rfl, rfl⟩ := hrel
    go_wp2
    go_ret
    exact ⟨-1, rfl, ⟨by omega, by omega, rfl⟩, Below.refl _ _⟩
theorem idxV_is (v : Value) (cs : List Vl) (w : World) (h : RowIs w v cs) (h8 : cs.length ≤ 8) :
    Calls Tryz.prog 43 #[v, .func (.func 30) #[] #[]] w fun e w' => ∃ r : Int, e = .returned (.int .i64 r) ∧ foundI r (cs.any longV) ∧ Below w.heap.size w w' := by
  obtain ⟨a, c, rfl, hs, rfl | ⟨b, o, rfl, hl, hat⟩⟩ := h
  · exact idxV_nil _ _ _ _
  · exact idxV_any b o c cs.length cs w rfl (by omega) hl hat hs

set_option maxHeartbeats 400000 in
theorem hasV_any (v : Value) (cs : List Vl) (w : World) (h : RowIs w v cs) (h8 : cs.length ≤ 8) :
    Calls Tryz.prog 29 #[v, .func (.func 30) #[] #[]] w fun e w' => e = .returned (.bool (cs.any longV)) ∧ Below w.heap.size w w' := by
  have HQ := Hid.mk (idxV_is v cs w h h8)
  obtain ⟨a, c, rfl, -, -⟩ := h
  go_enter Tryz.func29, Tryz.ntmps29
  go_wp2_with (go_at_call 43; refine HQ.out.mono ?_; rintro e w2 ⟨r, rfl, hf, hb2⟩; have HF := Hid.mk hf; clear hf)
  all_goals go_ret
  all_goals exact ⟨ret_bool (by rw [← HF.out.2.2]), hb2⟩

set_option maxHeartbeats 400000 in
theorem small2_any (v : Value) (vs : List Vl) (w : World) (h : RowIs w v vs) :
    Calls Tryz.prog 28 #[v] w fun e w' => e = .returned (.bool (longR vs)) ∧ Below w.heap.size w w' := by
  by_cases h8 : vs.length ≤ 8
  · have HQ := Hid.mk (hasV_any v vs w h h8)
    have HB : Hid (longR vs = vs.any longV) := by show _ = _; unfold longR; rw [decide_eq_false (by omega)]; rfl
    obtain ⟨a, c, rfl, -, -⟩ := h
    have n8 : ¬ ((8 : Int) < (vs.length : Int)) := by omega
    go_enter Tryz.func28, Tryz.ntmps28
    go_wp2_with (go_at_call 29; refine HQ.out.mono ?_; rintro e w2 ⟨rfl, hb2⟩)
    all_goals go_ret
    all_goals exact ⟨ret_bool HB.out.symm, hb2⟩
  · have HB : Hid (longR vs = true) := by show _ = _; unfold longR; rw [decide_eq_true (by omega)]; rfl
    obtain ⟨a, c, rfl, -, -⟩ := h
    have n8 : (8 : Int) < (vs.length : Int) := by omega
    go_enter Tryz.func28, Tryz.ntmps28
    go_wp2
    all_goals go_ret
    all_goals exact ⟨ret_bool HB.out.symm, Below.refl _ _⟩
end Go.Proofs.YtccbjhaebajamaaGreatDoor
