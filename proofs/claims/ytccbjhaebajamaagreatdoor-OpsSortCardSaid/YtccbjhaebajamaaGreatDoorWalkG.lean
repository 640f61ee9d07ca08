import Derived.Test.YtccbjhaebajamaaGreatDoorWalkF
set_option linter.unusedSimpArgs false
set_option linter.unusedVariables false
namespace Go.Proofs.YtccbjhaebajamaaGreatDoor
open Go.RowKit

set_option maxHeartbeats 400000 in
theorem rightRow_any (u vc : Value) (vs : List Vl) (cs : List Cl) (w : World) (hu : RowIs w u vs) (hc : ColsIs w vc cs) (h1 : 1 ≤ cs.length) (h6 : cs.length ≤ 6) :
    Calls Tryz.prog 35 #[u, vc] w fun e w' => e = .returned (.bool (rowOK vs cs)) ∧ Below w.heap.size w w' := by
  obtain ⟨a, c, rfl, hs, hu⟩ := hu
  obtain ⟨a', c', rfl, _, _, hc⟩ := hc
  by_cases hl : vs.length = cs.length
  · rcases hc with hc | ⟨b', o', rfl, hl', hat'⟩
    · rw [hc] at h1; simp at h1
    · rcases hu with hu | ⟨b, o, rfl, hlt, hat⟩
      · rw [hu] at hl; simp at hl; omega
      · rw [← hl]
        exact rightRow_in b o c b' o' c' vs.length vs cs w rfl hl.symm (by omega) hlt hl' hat hat' hs
  · rw [rowOK_lens vs cs hl]
    exact rightRow_lens _ _ _ _ _ _ _ hl

def rightB (cs : List Cl) (rs : List (List Vl)) : Bool := rightColsB cs && (decide (rs.length ≤ 60) && rs.all fun r => rowOK r cs)

theorem rightCols_len {cs : List Cl} (h : rightColsB cs = true) : 1 ≤ cs.length ∧ cs.length ≤ 6 := by
  simp [rightColsB] at h; exact ⟨by omega, h.2.1⟩
theorem all_step {p : List Vl → Bool} {rs : List (List Vl)} {k : Nat} (h : k < rs.length) (ht : (rs.take k).all p = true) (hp : p rs[k] = true) : (rs.take (k + 1)).all p = true := by
  rw [List.take_succ_eq_append_getElem h, List.all_append, ht]; simp [hp]
theorem all_false {p : List Vl → Bool} {rs : List (List Vl)} {k : Nat} (h : k < rs.length) (hp : p rs[k] = false) : rs.all p = false := by
  rw [List.all_eq_false]; exact ⟨_, List.getElem_mem h, by simp [hp]⟩

set_option maxHeartbeats 1600000 in
theorem right_any (vc vr : Value) (cs : List Cl) (rs : List (List Vl)) (w : World) (hc : ColsIs w vc cs) (hr : RowsIs w vr rs) :
    Calls Tryz.prog 10 #[.agg #[vc, vr]] w fun e w' => e = .returned (.bool (rightB cs rs)) ∧ Below w.heap.size w w' := by
  have hc0 := hc.below (below_box w (.cells #[vc, vr] 25))
  have hr0 := hr.below (below_box w (.cells #[vc, vr] 25))
  obtain ⟨a, c, rfl, -, -, -⟩ := hc
  obtain ⟨a', c', rfl, -⟩ := hr
  cases g1 : rightColsB cs
  · have HB : Hid (rightB cs rs = false) := by show rightB cs rs = false; simp [rightB, g1]
    have hR := rightCols_any _ cs _ hc0
    simp only [g1] at hR
    have HR := Hid.mk hR
    clear hR hc0 hr0
    go_enter Tryz.func10, Tryz.ntmps10
    go_wp2_with (go_at_call 34; refine HR.out.mono ?_; rintro e w' ⟨rfl, hb⟩)
    go_ret
    exact ⟨ret_bool HB.out.symm, (below_box _ _).trans (hb.mono (by simp))⟩
  · obtain ⟨h1, h6⟩ := rightCols_len g1
    have hR := rightCols_any _ cs _ hc0
    simp only [g1] at hR
    have HR := Hid.mk hR
    clear hR
    by_cases h60 : rs.length ≤ 60
    · have HB : Hid (rightB cs rs = rs.all fun r => rowOK r cs) := by show _ = _; simp [rightB, g1, h60]
      have n60 : ¬ ((60 : Int) < (rs.length : Int)) := by omega
      go_enter Tryz.func10, Tryz.ntmps10
      go_wp2_with (go_at_call 34; refine HR.out.mono ?_; rintro e w1 ⟨rfl, hb⟩; obtain ⟨hcb, hfb⟩ := bcell hb)
      have hc1 := hc0.below hb
      have hr1 := hr0.below hb
      have hz : w.heap.size + 1 ≤ w1.heap.size := by have := hb.size; simpa using this
      go_loopw [18] (fun i wr => ∃ k : Nat, k ≤ rs.length ∧ i = .int .i64 k ∧ (rs.take k).all (fun r => rowOK r cs) = true ∧ Below w1.heap.size w1 wr) (fun i _ => rs.length - (intOf i).toNat)
      case atStart => exact ⟨0, Nat.zero_le _, rfl, rfl, Below.refl _ _⟩
      case round =>
        obtain ⟨k, hk, rfl, hal, hnx⟩ := hrel
        have HA := Hid.mk hal
        clear hal
        have t1 : wr.cell? ⟨w.heap.size, 0, none⟩ = some (.slice a cs.length c) := (hnx.cell (p := ⟨w.heap.size, 0, none⟩) (by exact hz)).trans ((hcb _ _ (by simp)).trans (by simp))
        by_cases hlt : k < rs.length
        · obtain ⟨a2, c2, e2, hat⟩ := hr1
          rcases hat with hat | ⟨rb, ro, rfl, hrl, hat⟩
          · rw [hat] at hlt; simp at hlt
          · simp only [Value.slice.injEq] at e2
            obtain ⟨rfl, -, rfl⟩ := e2
            obtain ⟨u, hu, hrow⟩ := hat k hlt
            have hu' := (hnx.cell (p := ⟨rb, ro + k, none⟩) hrl).trans hu
            have hq := rightRow_any u (.slice a cs.length c) rs[k] cs wr (hrow.below hnx) (hc1.below hnx) h1 h6
            obtain ⟨a3, c3, rfl, -, -⟩ := hrow
            have HQ := Hid.mk hq
            clear hq hu
            cases g2 : rowOK rs[k] cs
            · go_wp2_with (go_at_call 35; refine HQ.out.mono ?_; rintro e w2 ⟨rfl, hb2⟩)
              go_ret
              exact ⟨ret_bool (by rw [HB.out]; exact (all_false (p := fun r => rowOK r cs) hlt g2).symm), (below_box _ _).trans ((hb.mono (by simp)).trans ((hnx.mono (by omega)).trans (hb2.mono (by have := hnx.size; omega))))⟩
            · go_wp2_with (go_at_call 35; refine HQ.out.mono ?_; rintro e w2 ⟨rfl, hb2⟩)
              go_roundw
              case rel => exact ⟨k + 1, by omega, by go_num, all_step (p := fun r => rowOK r cs) hlt HA.out g2, hnx.trans (hb2.mono hnx.size)⟩
              case measure => simp [intOf]; omega
        · go_wp2
          go_ret
          exact ⟨ret_bool (by have := HA.out; rw [List.take_of_length_le (by omega)] at this; rw [HB.out]; exact this.symm), (below_box _ _).trans ((hb.mono (by simp)).trans (hnx.mono (by omega)))⟩
    · have HB : Hid (rightB cs rs = false) := by show _ = _; simp [rightB, h60]
      have n60 : (60 : Int) < (rs.length : Int) := by omega
      go_enter Tryz.func10, Tryz.ntmps10
      go_wp2_with (go_at_call 34; refine HR.out.mono ?_; rintro e w1 ⟨rfl, hb⟩; obtain ⟨hcb, hfb⟩ := bcell hb)
      go_ret
      exact ⟨ret_bool HB.out.symm, (below_box _ _).trans (hb.mono (by simp))⟩
end Go.Proofs.YtccbjhaebajamaaGreatDoor
