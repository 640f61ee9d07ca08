import Derived.Test.YtnpjdloagoaanaaDoorSumP
import Derived.Test.YtnpjdloagoaanaaDoorSumQ
set_option linter.unusedSimpArgs false
set_option linter.unusedVariables false
namespace Go.Proofs.YtnpjdloagoaanaaDoor
open Go.RowKit

set_option maxRecDepth 100000 in
set_option maxHeartbeats 800000 in
theorem tells_any (s : ByteArray) (w : World) (hE : EnvK w) (hZ : EnvZ w) (hs : s.size ≤ maxLen) :
    Calls Tryd.prog 4 #[.string s] w fun e w' => e = .returned (.bool true) ∧ Below w.heap.size w w' := by
  unfold maxLen at hs
  by_cases h : s.size ≤ 400
  · have HE := Hid.mk hE
    have HZ := Hid.mk hZ
    have h1 := fun w (h' : EnvK w) => sum_any s w h h'
    have h2 := fun w => refSum_any s w h
    have h3 := fun w => hex_any s w h
    have h4 := fun w (h' : EnvZ w) => refHex_any s w h h'
    obtain ⟨a, ha⟩ : ∃ a, sumL s.data.toList = a := ⟨_, rfl⟩
    obtain ⟨b, hb⟩ : ∃ b, hexL s.data.toList = b := ⟨_, rfl⟩
    rw [ha] at h1 h2
    rw [hb] at h3 h4
    have H1 := Hid.mk h1
    have H2 := Hid.mk h2
    have H3 := Hid.mk h3
    have H4 := Hid.mk h4
    clear h1 h2 h3 h4 ha hb hE hZ
    go_enter Tryd.func4, Tryd.ntmps4
    go_wp2_with (first
      | (go_at_call 9; refine (H1.out _ HE.out).mono ?_; rintro e w1 ⟨rfl, hb1⟩)
      | (go_at_call 10; refine (H2.out _).mono ?_; rintro e w2 ⟨rfl, hb2⟩)
      | (go_at_call 11; refine (H3.out _).mono ?_; rintro e w3 ⟨rfl, hb3⟩)
      | (go_at_call 12; refine (H4.out _ (((HZ.out.below hb1).below hb2).below hb3)).mono ?_; rintro e w4 ⟨rfl, hb4⟩))
    go_ret
    exact ⟨rfl, bel_then (bel_then (bel_then hb1 hb2) hb3) hb4⟩
  · clear hE hZ
    go_enter Tryd.func4, Tryd.ntmps4
    go_wp2
    go_ret
    exact ⟨rfl, Below.refl _ _⟩
end Go.Proofs.YtnpjdloagoaanaaDoor
