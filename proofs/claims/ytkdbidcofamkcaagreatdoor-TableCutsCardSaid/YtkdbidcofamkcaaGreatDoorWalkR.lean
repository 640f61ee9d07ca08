import Derived.Test.YtkdbidcofamkcaaGreatDoorFact
set_option linter.unusedSimpArgs false
set_option linter.unusedVariables false
namespace Go.Proofs.YtkdbidcofamkcaaGreatDoor
open Go.RowKit

/-- The known table, as it lies. -/
theorem form_a {e : Ending} {w' : World} (h : parseEnd e w' (.ok (cs0, rs0))) : ∃ ca cc rb ro rc vb vo c0, e = .returned (.tuple #[.agg #[.slice ca 2 cc, .slice (some ⟨rb, ro, none⟩) 2 rc], .nilIface]) ∧ rb < w'.heap.size ∧ w'.cell? ⟨rb, ro, none⟩ = some (.slice (some ⟨vb, vo, none⟩) 2 c0) ∧ vb < w'.heap.size ∧ w'.cell? ⟨vb, vo + 3 + 2, none⟩ = some (.string ⟨#[97, 32, 98]⟩) ∧
    ColsIs w' (.slice ca 2 cc) cs0 ∧ RowsIs w' (.slice (some ⟨rb, ro, none⟩) 2 rc) (rs0.map (·.map vl)) := by
  obtain ⟨vc, vr, rfl, hc, hr⟩ := h
  have hc' := hc
  have hr' := hr
  obtain ⟨ca, cc, rfl, -⟩ := hc
  obtain ⟨ra, rc, rfl, hrat⟩ := hr
  rcases hrat with hrat | ⟨rb, ro, rfl, hrb, hrat⟩
  · exact absurd hrat (by simp [rs0])
  obtain ⟨u, hu, hrow⟩ := hrat 0 (by decide)
  obtain ⟨a0, c0, rfl, -, hrow⟩ := hrow
  rcases hrow with hrow | ⟨vb, vo, rfl, hvb, hvat⟩
  · exact absurd hrow (by simp [rs0])
  exact ⟨ca, cc, rb, ro, rc, vb, vo, c0, rfl, hrb, hu, hvb, (hvat 1 (by decide)).2.2, hc', hr'⟩

set_option maxRecDepth 100000 in
set_option maxHeartbeats 1600000 in
theorem written_any (w : World) (hE : Env w) : Calls Tryz.prog 29 #[] w fun e w' => e = .returned (.bool true) ∧ Below w.heap.size w w' := by
  have hP := parse_any s0 w (by decide) hE
  rw [parse_a] at hP
  have HP := Hid.mk hP
  have HE := Hid.mk hE
  clear hP hE
  go_enter Tryz.func29, Tryz.ntmps29
  go_wp2_with (first | (go_at_call 25; refine HP.out.mono ?_; rintro e w1 ⟨hb1, hpe⟩; obtain ⟨ca, cc, rb, ro, rc, vb, vo, c0, rfl, hrb, d1, hvb, d2, hc, hr⟩ := form_a hpe) | (go_at_call 20; fail))
  have hPR := print_ok _ _ _ _ _ (hc.below (below_box w1 (.cells #[.slice ca 2 cc, .slice (some ⟨rb, ro, none⟩) 2 rc] 25))) (hr.below (below_box w1 (.cells #[.slice ca 2 cc, .slice (some ⟨rb, ro, none⟩) 2 rc] 25))) ((HE.out.below hb1).below (below_box _ _)) right_b
  rw [print_a] at hPR
  refine hPR.mono ?_
  rintro e w2 ⟨rfl, hb2⟩
  clear hPR
  go_wp2
  go_ret
  exact ⟨ret_bool (by rw [ByteArray.toList_eq]; rfl), bel_then (bel_box hb1 _) hb2⟩
end Go.Proofs.YtkdbidcofamkcaaGreatDoor
