import Derived.Test.YtccbjhaebajamaaGreatDoorSmlT
set_option linter.unusedSimpArgs false
set_option linter.unusedVariables false
namespace Go.Proofs.YtccbjhaebajamaaGreatDoor
open Go.RowKit

set_option maxHeartbeats 800000 in
theorem idxR_any (b o c n : Nat) (rs : List (List Vl)) (w : World) (hn : rs.length = n) (h8 : n ≤ 100) (hb : b < w.heap.size) (hc : RowsAt w b o rs) :
    Calls Tryz.prog 42 #[.slice (some ⟨b, o, none⟩) n c, .func (.func 28) #[] #[]] w fun e w' => ∃ r : Int, e = .returned (.int .i64 r) ∧ foundI r (rs.any longR) ∧ Below w.heap.size w w' := by
  have HN := Hid.mk hn
  clear hn
  go_enter Tryz.func42, Tryz.ntmps42
  go_wp2
  go_loopw [8] (fun i wr => ∃ k : Nat, k ≤ n ∧ i = .int .i64 k ∧ (rs.take k).any longR = false ∧ Below w.heap.size w wr) (fun i _ => n - (intOf i).toNat)
  case atStart => exact ⟨0, Nat.zero_le _, rfl, rfl, Below.refl _ _⟩
  case round =>
    obtain ⟨k, hk, rfl, hal, hnx⟩ := hrel
    have HA := Hid.mk hal
    clear hal
    by_cases hlt : k < n
    · have hk2 : k < rs.length := by have := HN.out; omega
      obtain ⟨u, hu, hrow⟩ := hc k hk2
      have hu' := (hnx.cell (p := ⟨b, o + k, none⟩) hb).trans hu
      have hq := small2_any u rs[k] wr (hrow.below hnx)
      obtain ⟨a3, c3, rfl, -, -⟩ := hrow
      have HQ := Hid.mk hq
      clear hq hu
      cases hp : longR rs[k]
      all_goals have HP := Hid.mk hp
      all_goals rw [hp] at HQ
      · go_wp2_with (go_at_call 28; refine HQ.out.mono ?_; rintro e w2 ⟨rfl, hb2⟩)
        go_roundw
        case rel => exact ⟨k + 1, by omega, by go_num, any_step hk2 HA.out HP.out, hnx.trans (hb2.mono hnx.size)⟩
        case measure => simp [intOf]; omega
      · go_wp2_with (go_at_call 28; refine HQ.out.mono ?_; rintro e w2 ⟨rfl, hb2⟩)
        go_ret
        exact ⟨k, rfl, ⟨by omega, by omega, by rw [any_hit hk2 HP.out]; simp⟩, hnx.trans (hb2.mono hnx.size)⟩
    · go_wp2
      go_ret
      exact ⟨-1, rfl, ⟨by omega, by omega, by have := HA.out; rw [List.take_of_length_le (by have := HN.out; omega)] at this; rw [this]; rfl⟩, hnx⟩
set_option maxHeartbeats 400000 in
theorem idxR_nil (a : Option Addr) (c : Nat) (f : Value) (w : World) :
    Calls Tryz.prog 42 #[.slice a 0 c, f] w fun e w' => ∃ r : Int, e = .returned (.int .i64 r) ∧ foundI r false ∧ Below w.heap.size w w' := by
  go_enter Tryz.func42, Tryz.ntmps42
  go_wp2
  go_loopw [8] (fun i wr => i = .int .i64 0 ∧ wr = w) (fun i _ => 0)
  case atStart => exact ⟨rfl, rfl⟩
  case round =>
    obtain ⟨rfl, rfl⟩ := hrel
    go_wp2
    go_ret
    exact ⟨-1, rfl, ⟨by omega, by omega, rfl⟩, Below.refl _ _⟩
theorem idxR_is (v : Value) (rs : List (List Vl)) (w : World) (h : RowsIs w v rs) (h8 : rs.length ≤ 65) :
    Calls Tryz.prog 42 #[v, .func (.func 28) #[] #[]] w fun e w' => ∃ r : Int, e = .returned (.int .i64 r) ∧ foundI r (rs.any longR) ∧ Below w.heap.size w w' := by
  obtain ⟨a, c, rfl, rfl | ⟨b, o, rfl, hl, hat⟩⟩ := h
  · exact idxR_nil _ _ _ _
  · exact idxR_any b o c rs.length rs w rfl (by omega) hl hat
set_option maxHeartbeats 400000 in
theorem hasR_any (v : Value) (rs : List (List Vl)) (w : World) (h : RowsIs w v rs) (h8 : rs.length ≤ 65) :
    Calls Tryz.prog 27 #[v, .func (.func 28) #[] #[]] w fun e w' => e = .returned (.bool (rs.any longR)) ∧ Below w.heap.size w w' := by
  have HQ := Hid.mk (idxR_is v rs w h h8)
  obtain ⟨a, c, rfl, -⟩ := h
  go_enter Tryz.func27, Tryz.ntmps27
  go_wp2_with (go_at_call 42; refine HQ.out.mono ?_; rintro e w2 ⟨r, rfl, hf, hb2⟩; have HF := Hid.mk hf; clear hf)
  all_goals go_ret
  all_goals exact ⟨ret_bool (by rw [← HF.out.2.2]), hb2⟩

theorem small_wide {cs : List Cl} {rs : List (List Vl)} (h : 8 < cs.length) : smallB cs rs = false := by
  unfold smallB; rw [decide_eq_true h]; rfl
theorem small_tall {cs : List Cl} {rs : List (List Vl)} (h : 65 < rs.length) : smallB cs rs = false := by
  unfold smallB; rw [decide_eq_true h]; simp
theorem small_named {cs : List Cl} {rs : List (List Vl)} (h : cs.any longC = true) : smallB cs rs = false := by
  unfold smallB; rw [h]; simp
theorem small_rest {cs : List Cl} {rs : List (List Vl)} (h8 : cs.length ≤ 8) (h65 : rs.length ≤ 65) (h : cs.any longC = false) : smallB cs rs = !(rs.any longR) := by
  unfold smallB; rw [decide_eq_false (by omega), decide_eq_false (by omega), h]; rfl

set_option maxHeartbeats 800000 in
theorem small_any (vc vr : Value) (cs : List Cl) (rs : List (List Vl)) (w : World) (hc : ColsIs w vc cs) (hr : RowsIs w vr rs) :
    Calls Tryz.prog 7 #[.agg #[vc, vr]] w fun e w' => e = .returned (.bool (smallB cs rs)) ∧ Below w.heap.size w w' := by
  have hc0 := hc.below (below_box w (.cells #[vc, vr] 25))
  have hr0 := hr.below (below_box w (.cells #[vc, vr] 25))
  by_cases h8 : cs.length ≤ 8
  · by_cases h65 : rs.length ≤ 65
    · have hQ := hasC_any vc cs _ hc0 h8
      have n8 : ¬ ((8 : Int) < (cs.length : Int)) := by omega
      have n65 : ¬ ((65 : Int) < (rs.length : Int)) := by omega
      cases g : cs.any longC
      · rw [g] at hQ
        have HQ := Hid.mk hQ
        have HR := Hid.mk (fun w2 (hb : Below (w.alloc (.cells #[vc, vr] 25)).heap.size (w.alloc (.cells #[vc, vr] 25)) w2) => hasR_any vr rs w2 (hr0.below hb) h65)
        have HB := Hid.mk (small_rest h8 h65 g)
        clear hQ g hc0 hr0
        obtain ⟨a, c, rfl, -, -, -⟩ := hc
        obtain ⟨a', c', rfl, -⟩ := hr
        go_enter Tryz.func7, Tryz.ntmps7
        go_wp2_with (first | (go_at_call 25; refine HQ.out.mono ?_; rintro e w2 ⟨rfl, hb2⟩; obtain ⟨hcb, hfb⟩ := bcell hb2) | (go_at_call 27; refine (HR.out _ hb2).mono ?_; rintro e w3 ⟨rfl, hb3⟩))
        all_goals go_ret
        all_goals exact ⟨ret_bool HB.out.symm, (below_box _ _).trans ((hb2.mono (by simp)).trans (hb3.mono (by have := hb2.size; simp at this; omega)))⟩
      · rw [g] at hQ
        have HQ := Hid.mk hQ
        have HB := Hid.mk (small_named (rs := rs) g)
        clear hQ g hc0 hr0
        obtain ⟨a, c, rfl, -, -, -⟩ := hc
        obtain ⟨a', c', rfl, -⟩ := hr
        go_enter Tryz.func7, Tryz.ntmps7
        go_wp2_with (go_at_call 25; refine HQ.out.mono ?_; rintro e w2 ⟨rfl, hb2⟩; obtain ⟨hcb, hfb⟩ := bcell hb2)
        all_goals go_ret
        all_goals exact ⟨ret_bool HB.out.symm, (below_box _ _).trans (hb2.mono (by simp))⟩
    · have HB := Hid.mk (small_tall (cs := cs) (rs := rs) (by omega))
      have n8 : ¬ ((8 : Int) < (cs.length : Int)) := by omega
      have n65 : (65 : Int) < (rs.length : Int) := by omega
      clear hc0 hr0
      obtain ⟨a, c, rfl, -, -, -⟩ := hc
      obtain ⟨a', c', rfl, -⟩ := hr
      go_enter Tryz.func7, Tryz.ntmps7
      go_wp2
      all_goals go_ret
      all_goals exact ⟨ret_bool HB.out.symm, below_box _ _⟩
  · have HB := Hid.mk (small_wide (cs := cs) (rs := rs) (by omega))
    have n8 : (8 : Int) < (cs.length : Int) := by omega
    clear hc0 hr0
    obtain ⟨a, c, rfl, -, -, -⟩ := hc
    obtain ⟨a', c', rfl, -⟩ := hr
    go_enter Tryz.func7, Tryz.ntmps7
    go_wp2
    all_goals go_ret
    all_goals exact ⟨ret_bool HB.out.symm, below_box _ _⟩
end Go.Proofs.YtccbjhaebajamaaGreatDoor
