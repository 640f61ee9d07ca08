import Derived.Test.YtccbjhaebajamaaGreatDoorSmlU
set_option linter.unusedSimpArgs false
set_option linter.unusedVariables false
namespace Go.Proofs.YtccbjhaebajamaaGreatDoor
open Go.RowKit

set_option maxHeartbeats 800000 in
theorem eqC_in (b o c b' o' c' n : Nat) (cs : List Cl) (w : World) (hn : cs.length = n) (h8 : n ≤ 100) (hb : b < w.heap.size) (hb' : b' < w.heap.size) (hc : ColsAt w b o cs) (hc' : ColsAt w b' o' cs) :
    Calls Tryz.prog 36 #[.slice (some ⟨b, o, none⟩) n c, .slice (some ⟨b', o', none⟩) n c'] w fun e w' => e = .returned (.bool true) ∧ Below w.heap.size w w' := by
  have HN := Hid.mk hn
  clear hn
  go_enter Tryz.func36, Tryz.ntmps36
  go_wp2
  go_loopw [13] (fun i wr => ∃ k : Nat, k ≤ n ∧ i = .int .i64 k ∧ Below w.heap.size w wr) (fun i _ => n - (intOf i).toNat)
  case atStart => exact ⟨0, Nat.zero_le _, rfl, Below.refl _ _⟩
  case round =>
    obtain ⟨k, hk, rfl, hnx⟩ := hrel
    by_cases hlt : k < n
    · have hk2 : k < cs.length := by have := HN.out; omega
      obtain ⟨c1, c2⟩ := hc k hk2
      have d1 := (hnx.cell (p := ⟨b, o + k * 2, none⟩) hb).trans c1
      have d2 := (hnx.cell (p := ⟨b, o + k * 2 + 1, none⟩) hb).trans c2
      obtain ⟨c3, c4⟩ := hc' k hk2
      have d3 := (hnx.cell (p := ⟨b', o' + k * 2, none⟩) hb').trans c3
      have d4 := (hnx.cell (p := ⟨b', o' + k * 2 + 1, none⟩) hb').trans c4
      clear c1 c2 c3 c4
      go_wp2
      go_quiet (fail)
      go_wp2
      go_roundw
      case rel => exact ⟨k + 1, by omega, by go_num, below_drewN hnx _⟩
      case measure => simp [intOf]; omega
    · go_wp2
      go_ret
      exact ⟨rfl, hnx⟩

set_option maxHeartbeats 400000 in
theorem eqC_nil (a a' : Option Addr) (c c' : Nat) (w : World) :
    Calls Tryz.prog 36 #[.slice a 0 c, .slice a' 0 c'] w fun e w' => e = .returned (.bool true) ∧ Below w.heap.size w w' := by
  go_enter Tryz.func36, Tryz.ntmps36
  go_wp2
  go_loopw [13] (fun i wr => i = .int .i64 0 ∧ wr = w) (fun i _ => 0)
  case atStart => exact ⟨rfl, rfl⟩
  case round =>
    obtain ⟨rfl, rfl⟩ := hrel
    go_wp2
    go_ret
    exact ⟨rfl, Below.refl _ _⟩
theorem eqC_is (v v' : Value) (cs : List Cl) (w : World) (h : ColsIs w v cs) (h' : ColsIs w v' cs) (h8 : cs.length ≤ 60) :
    Calls Tryz.prog 36 #[v, v'] w fun e w' => e = .returned (.bool true) ∧ Below w.heap.size w w' := by
  obtain ⟨a, c, rfl, -, -, hh⟩ := h
  obtain ⟨a', c', rfl, -, -, hh'⟩ := h'
  rcases hh with rfl | ⟨b, o, rfl, hl, hat⟩
  · exact eqC_nil _ _ _ _ _
  · rcases hh' with rfl | ⟨b', o', rfl, hl', hat'⟩
    · exact eqC_nil _ _ _ _ _
    · exact eqC_in b o c b' o' c' cs.length cs w rfl (by omega) hl hl' hat hat'

set_option maxHeartbeats 800000 in
theorem eqV_in (b o c b' o' c' n : Nat) (vs : List Vl) (w : World) (hn : vs.length = n) (h8 : n ≤ 100) (hb : b < w.heap.size) (hb' : b' < w.heap.size) (hc : ValsAt w b o vs) (hc' : ValsAt w b' o' vs) :
    Calls Tryz.prog 21 #[.slice (some ⟨b, o, none⟩) n c, .slice (some ⟨b', o', none⟩) n c'] w fun e w' => e = .returned (.bool true) ∧ Below w.heap.size w w' := by
  have HN := Hid.mk hn
  clear hn
  go_enter Tryz.func21, Tryz.ntmps21
  go_wp2
  go_loopw [13] (fun i wr => ∃ k : Nat, k ≤ n ∧ i = .int .i64 k ∧ Below w.heap.size w wr) (fun i _ => n - (intOf i).toNat)
  case atStart => exact ⟨0, Nat.zero_le _, rfl, Below.refl _ _⟩
  case round =>
    obtain ⟨k, hk, rfl, hnx⟩ := hrel
    by_cases hlt : k < n
    · have hk2 : k < vs.length := by have := HN.out; omega
      obtain ⟨c1, c2, c3⟩ := hc k hk2
      have d1 := (hnx.cell (p := ⟨b, o + k * 3, none⟩) hb).trans c1
      have d2 := (hnx.cell (p := ⟨b, o + k * 3 + 1, none⟩) hb).trans c2
      have d3 := (hnx.cell (p := ⟨b, o + k * 3 + 2, none⟩) hb).trans c3
      obtain ⟨c4, c5, c6⟩ := hc' k hk2
      have d4 := (hnx.cell (p := ⟨b', o' + k * 3, none⟩) hb').trans c4
      have d5 := (hnx.cell (p := ⟨b', o' + k * 3 + 1, none⟩) hb').trans c5
      have d6 := (hnx.cell (p := ⟨b', o' + k * 3 + 2, none⟩) hb').trans c6
      clear c1 c2 c3 c4 c5 c6
      go_wp2
      go_quiet (fail)
      go_wp2
      go_roundw
      case rel => exact ⟨k + 1, by omega, by go_num, below_drewN hnx _⟩
      case measure => simp [intOf]; omega
    · go_wp2
      go_ret
      exact ⟨rfl, hnx⟩

set_option maxHeartbeats 400000 in
theorem eqV_nil (a a' : Option Addr) (c c' : Nat) (w : World) :
    Calls Tryz.prog 21 #[.slice a 0 c, .slice a' 0 c'] w fun e w' => e = .returned (.bool true) ∧ Below w.heap.size w w' := by
  go_enter Tryz.func21, Tryz.ntmps21
  go_wp2
  go_loopw [13] (fun i wr => i = .int .i64 0 ∧ wr = w) (fun i _ => 0)
  case atStart => exact ⟨rfl, rfl⟩
  case round =>
    obtain ⟨rfl, rfl⟩ := hrel
    go_wp2
    go_ret
    exact ⟨rfl, Below.refl _ _⟩
theorem eqV_is (v v' : Value) (vs : List Vl) (w : World) (h : RowIs w v vs) (h' : RowIs w v' vs) (h8 : vs.length ≤ 60) :
    Calls Tryz.prog 21 #[v, v'] w fun e w' => e = .returned (.bool true) ∧ Below w.heap.size w w' := by
  obtain ⟨a, c, rfl, -, hh⟩ := h
  obtain ⟨a', c', rfl, -, hh'⟩ := h'
  rcases hh with rfl | ⟨b, o, rfl, hl, hat⟩
  · exact eqV_nil _ _ _ _ _
  · rcases hh' with rfl | ⟨b', o', rfl, hl', hat'⟩
    · exact eqV_nil _ _ _ _ _
    · exact eqV_in b o c b' o' c' vs.length vs w rfl (by omega) hl hl' hat hat'

set_option maxHeartbeats 400000 in
theorem same1_any (v v' : Value) (vs : List Vl) (w : World) (h : RowIs w v vs) (h' : RowIs w v' vs) (h8 : vs.length ≤ 60) :
    Calls Tryz.prog 38 #[v, v'] w fun e w' => e = .returned (.bool true) ∧ Below w.heap.size w w' := by
  have HQ := Hid.mk (eqV_is v v' vs w h h' h8)
  obtain ⟨a, c, rfl, -, -⟩ := h
  obtain ⟨a', c', rfl, -, -⟩ := h'
  go_enter Tryz.func38, Tryz.ntmps38
  go_wp2_with (go_at_call 21; refine HQ.out.mono ?_; rintro e w2 ⟨rfl, hb2⟩)
  go_ret
  exact ⟨rfl, hb2⟩

set_option maxHeartbeats 800000 in
theorem eqR_in (b o c b' o' c' n : Nat) (rs : List (List Vl)) (w : World) (hn : rs.length = n) (h8 : n ≤ 100) (hr : ∀ r ∈ rs, r.length ≤ 60) (hb : b < w.heap.size) (hb' : b' < w.heap.size) (hc : RowsAt w b o rs) (hc' : RowsAt w b' o' rs) :
    Calls Tryz.prog 37 #[.slice (some ⟨b, o, none⟩) n c, .slice (some ⟨b', o', none⟩) n c', .func (.func 38) #[] #[]] w fun e w' => e = .returned (.bool true) ∧ Below w.heap.size w w' := by
  have HN := Hid.mk hn
  clear hn
  go_enter Tryz.func37, Tryz.ntmps37
  go_wp2
  go_loopw [17] (fun i wr => ∃ k : Nat, k ≤ n ∧ i = .int .i64 k ∧ Below w.heap.size w wr) (fun i _ => n - (intOf i).toNat)
  case atStart => exact ⟨0, Nat.zero_le _, rfl, Below.refl _ _⟩
  case round =>
    obtain ⟨k, hk, rfl, hnx⟩ := hrel
    by_cases hlt : k < n
    · have hk2 : k < rs.length := by have := HN.out; omega
      obtain ⟨u, hu, hrow⟩ := hc k hk2
      have du := (hnx.cell (p := ⟨b, o + k, none⟩) hb).trans hu
      obtain ⟨u', hu', hrow'⟩ := hc' k hk2
      have du' := (hnx.cell (p := ⟨b', o' + k, none⟩) hb').trans hu'
      have HQ := Hid.mk (same1_any u u' rs[k] wr (hrow.below hnx) (hrow'.below hnx) (hr _ (List.getElem_mem hk2)))
      obtain ⟨a3, c3, rfl, -, -⟩ := hrow
      obtain ⟨a4, c4, rfl, -, -⟩ := hrow'
      clear hu hu'
      go_wp2_with (go_at_call 38; refine HQ.out.mono ?_; rintro e w2 ⟨rfl, hb2⟩)
      go_roundw
      case rel => exact ⟨k + 1, by omega, by go_num, hnx.trans (hb2.mono hnx.size)⟩
      case measure => simp [intOf]; omega
    · go_wp2
      go_ret
      exact ⟨rfl, hnx⟩

set_option maxHeartbeats 400000 in
theorem eqR_nil (a a' : Option Addr) (c c' : Nat) (f : Value) (w : World) :
    Calls Tryz.prog 37 #[.slice a 0 c, .slice a' 0 c', f] w fun e w' => e = .returned (.bool true) ∧ Below w.heap.size w w' := by
  go_enter Tryz.func37, Tryz.ntmps37
  go_wp2
  go_loopw [17] (fun i wr => i = .int .i64 0 ∧ wr = w) (fun i _ => 0)
  case atStart => exact ⟨rfl, rfl⟩
  case round =>
    obtain ⟨rfl, rfl⟩ := hrel
    go_wp2
    go_ret
    exact ⟨rfl, Below.refl _ _⟩
theorem eqR_is (v v' : Value) (rs : List (List Vl)) (w : World) (h : RowsIs w v rs) (h' : RowsIs w v' rs) (h8 : rs.length ≤ 65) (hr : ∀ r ∈ rs, r.length ≤ 60) :
    Calls Tryz.prog 37 #[v, v', .func (.func 38) #[] #[]] w fun e w' => e = .returned (.bool true) ∧ Below w.heap.size w w' := by
  obtain ⟨a, c, rfl, hh⟩ := h
  obtain ⟨a', c', rfl, hh'⟩ := h'
  rcases hh with rfl | ⟨b, o, rfl, hl, hat⟩
  · exact eqR_nil _ _ _ _ _ _
  · rcases hh' with rfl | ⟨b', o', rfl, hl', hat'⟩
    · exact eqR_nil _ _ _ _ _ _
    · exact eqR_in b o c b' o' c' rs.length rs w rfl (by omega) hr hl hl' hat hat'

set_option maxHeartbeats 800000 in
theorem same_any (vc vr vc' vr' : Value) (cs : List Cl) (rs : List (List Vl)) (w : World) (hc : ColsIs w vc cs) (hr : RowsIs w vr rs) (hc' : ColsIs w vc' cs) (hr' : RowsIs w vr' rs) (h8 : cs.length ≤ 60) (h65 : rs.length ≤ 65) (hl : ∀ r ∈ rs, r.length ≤ 60) :
    Calls Tryz.prog 11 #[.agg #[vc, vr], .agg #[vc', vr']] w fun e w' => e = .returned (.bool true) ∧ Below w.heap.size w w' := by
  have HQ := Hid.mk (fun w1 (hb : Below w.heap.size w w1) => eqC_is vc vc' cs w1 (hc.below hb) (hc'.below hb) h8)
  have HR := Hid.mk (fun w1 (hb : Below w.heap.size w w1) => eqR_is vr vr' rs w1 (hr.below hb) (hr'.below hb) h65 hl)
  obtain ⟨a, c, rfl, -, -, -⟩ := hc
  obtain ⟨a', c', rfl, -⟩ := hr
  obtain ⟨a2, c2, rfl, -, -, -⟩ := hc'
  obtain ⟨a3, c3, rfl, -⟩ := hr'
  go_enter Tryz.func11, Tryz.ntmps11
  go_wp2_with (first | (go_at_call 36; refine (HQ.out _ ((below_box _ _).trans ((below_box _ _).mono (by simp)))).mono ?_; rintro e w2 ⟨rfl, hb2⟩; obtain ⟨hcb, hfb⟩ := bcell hb2) | (go_at_call 37; refine (HR.out _ (((below_box _ _).trans ((below_box _ _).mono (by simp))).trans (hb2.mono (by simp; omega)))).mono ?_; rintro e w3 ⟨rfl, hb3⟩))
  go_ret
  exact ⟨rfl, ((below_box _ _).trans ((below_box _ _).mono (by simp))).trans ((hb2.mono (by simp; omega)).trans (hb3.mono (by have := hb2.size; simp at this; omega)))⟩
end Go.Proofs.YtccbjhaebajamaaGreatDoor
