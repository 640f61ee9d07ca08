import Derived.Test.YtccbjhaebajamaaGreatDoorOpsD
set_option linter.unusedSimpArgs false
set_option linter.unusedVariables false
namespace Go.Proofs.YtccbjhaebajamaaGreatDoor
open Go.RowKit

set_option maxRecDepth 100000 in
set_option maxHeartbeats 1600000 in
theorem kindOf_in (b o n c : Nat) (cs : List Cl) (x : Ag) (w : World) (hn : cs.length = n) (hn' : n ≤ 100) (hb : b < w.heap.size) (hc : ColsAt w b o cs) (hx : x.2.2.2.size ≤ maxLen) :
    Calls Tryz.prog 125 #[aggA x, .slice (some ⟨b, o, none⟩) n c] w fun e w' => e = .returned (.int .i64 (kindA cs x)) ∧ Below w.heap.size w w' := by
  by_cases h0 : x.1.data.toList = []
  · have he : x.1.toList.isEmpty = true := by rw [ByteArray.toList_eq, h0]; rfl
    have hk : kindA cs x = if rvB x.2 = true then x.2.1 else 0 := by unfold kindA; rw [if_pos h0]
    have hR := fun W => rightValue_any x.2.1 x.2.2.1 x.2.2.2 W hx
    rw [show rightValueB x.2.1 x.2.2.1 x.2.2.2.data.toList = rvB x.2 from rfl] at hR
    cases g : rvB x.2
    · rw [g] at hR hk
      have HR := Hid.mk hR
      rw [hk]
      clear hR hk g h0 hn hc
      go_enter Tryz.func125, Tryz.ntmps125
      go_wp2_with (go_at_call 57; refine (HR.out _).mono ?_; rintro e w1 ⟨rfl, hb1⟩)
      go_ret
      exact ⟨rfl, bel_then (below_box _ _) hb1⟩
    · rw [g] at hR hk
      have HR := Hid.mk hR
      rw [hk]
      clear hR hk g h0 hn hc
      go_enter Tryz.func125, Tryz.ntmps125
      go_wp2_with (go_at_call 57; refine (HR.out _).mono ?_; rintro e w1 ⟨rfl, hb1⟩; obtain ⟨hc1, hf1⟩ := bcell hb1)
      go_ret
      exact ⟨rfl, bel_then (below_box _ _) hb1⟩
  · have he : x.1.toList.isEmpty = false := by
      rw [ByteArray.toList_eq]
      cases h : x.1.data.toList with
      | nil => exact absurd h h0
      | cons a q => rfl
    have hP := fun W (h1 : Below w.heap.size w W) => place_in b o n c cs x.1 W hn hn' (by have := h1.size; omega) (hc.below h1 hb)
    cases g : placeN cs x.1.data.toList with
    | none =>
      have hk : kindA cs x = 0 := by unfold kindA; rw [if_neg h0, g]
      rw [show placeI cs x.1.data.toList = -1 by rw [placeI, g]] at hP
      have HP := Hid.mk hP
      rw [hk]
      clear hP hk g h0 hn hc
      go_enter Tryz.func125, Tryz.ntmps125
      go_wp2_with (go_at_call 78; refine (HP.out _ (below_box _ _)).mono ?_; rintro e w1 ⟨rfl, hb1⟩; obtain ⟨hc1, hf1⟩ := bcell hb1)
      go_ret
      exact ⟨rfl, bel_then (below_box _ _) hb1⟩
    | some i =>
      have hil := place_some g
      have hk : kindA cs x = if x.2.1 = 0 ∧ x.2.2.1 = 0 ∧ x.2.2.2.data.toList = [] then cs[i].2 else 0 := by
        unfold kindA; rw [if_neg h0, g]
        simp only [List.getElem?_eq_getElem hil, Option.getD_some]
      rw [show placeI cs x.1.data.toList = (i : Int) by rw [placeI, g]] at hP
      have HP := Hid.mk hP
      have d1 := (hc i hil).1
      have d2 := (hc i hil).2
      have hin : (i : Int) < (n : Int) := by omega
      rw [hk]
      clear hP hk g h0 hc
      generalize hcsi : cs[i] = ci at *
      clear hcsi hil hn
      by_cases z1 : x.2.1 = 0
      · by_cases z2 : x.2.2.1 = 0
        · by_cases z3 : x.2.2.2.data.toList = []
          · have z3' : x.2.2.2.toList.isEmpty = true := by rw [ByteArray.toList_eq, z3]; rfl
            rw [if_pos ⟨z1, z2, z3⟩]
            clear z3
            go_enter Tryz.func125, Tryz.ntmps125
            go_wp2_with (go_at_call 78; refine (HP.out _ (below_box _ _)).mono ?_; rintro e w1 ⟨rfl, hb1⟩; obtain ⟨hc1, hf1⟩ := bcell hb1)
            go_ret
            exact ⟨rfl, bel_then (below_box _ _) hb1⟩
          · have z3' : x.2.2.2.toList.isEmpty = false := by
              rw [ByteArray.toList_eq]
              cases h : x.2.2.2.data.toList with
              | nil => exact absurd h z3
              | cons a q => rfl
            rw [if_neg (fun h => z3 h.2.2)]
            clear z3
            go_enter Tryz.func125, Tryz.ntmps125
            go_wp2_with (go_at_call 78; refine (HP.out _ (below_box _ _)).mono ?_; rintro e w1 ⟨rfl, hb1⟩; obtain ⟨hc1, hf1⟩ := bcell hb1)
            go_ret
            exact ⟨rfl, bel_then (below_box _ _) hb1⟩
        · rw [if_neg (fun h => z2 h.2.1)]
          have z2' : (x.2.2.1 == 0) = false := by simp [z2]
          go_enter Tryz.func125, Tryz.ntmps125
          go_wp2_with (go_at_call 78; refine (HP.out _ (below_box _ _)).mono ?_; rintro e w1 ⟨rfl, hb1⟩; obtain ⟨hc1, hf1⟩ := bcell hb1)
          go_ret
          exact ⟨rfl, bel_then (below_box _ _) hb1⟩
      · rw [if_neg (fun h => z1 h.1)]
        have z1' : (x.2.1 == 0) = false := by simp [z1]
        go_enter Tryz.func125, Tryz.ntmps125
        go_wp2_with (go_at_call 78; refine (HP.out _ (below_box _ _)).mono ?_; rintro e w1 ⟨rfl, hb1⟩; obtain ⟨hc1, hf1⟩ := bcell hb1)
        go_ret
        exact ⟨rfl, bel_then (below_box _ _) hb1⟩
end Go.Proofs.YtccbjhaebajamaaGreatDoor
