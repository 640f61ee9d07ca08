import Derived.Test.YtjceppinfjbegaaGreatDoorWalkI
set_option linter.unusedSimpArgs false
set_option linter.unusedVariables false
namespace Go.Proofs.YtjceppinfjbegaaGreatDoor
open Go.RowKit

set_option maxHeartbeats 1600000 in
theorem parseValue_num (s : ByteArray) (w : World) (n : Int) (hs : s.size ≤ 1000000) (hE : Env w) (hp : Lib.hasPrefix s.data.toList [39] = false) (ha : Lib.atoiAll s.data.toList = .ok n) :
    Calls Tryz.prog 130 #[.string s] w fun e w' => e = .returned (pvEnd (parseV s.data.toList)) ∧ Below w.heap.size w w' := by
  have hP := Tryz.strings_HasPrefix s ⟨#[39]⟩ ((w.alloc (.cells #[.int .i64 0, .int .i64 0, .string ⟨#[]⟩] 24)).alloc (.cells #[.int .i64 0, .int .i64 0, .string ⟨#[]⟩] 24))
  have hp' : Lib.hasPrefix s.data.toList (ByteArray.mk #[39]).data.toList = false := hp
  rw [hp'] at hP
  have HP := Hid.mk hP
  have HE := Hid.mk hE
  have hrd : readV s.data.toList = (1, n, []) := by simp [readV, hp, ha]
  have HX := Hid.mk (pv_end hrd)
  have HA := Hid.mk (atoi_ok s ((w.alloc (.cells #[.int .i64 0, .int .i64 0, .string ⟨#[]⟩] 24)).alloc (.cells #[.int .i64 0, .int .i64 0, .string ⟨#[]⟩] 24)) n hs ha)
  clear hP hE hp hp' hrd ha
  go_enter Tryz.func130, Tryz.ntmps130
  go_wp2_with (first | (go_at_call 156; refine HP.out.mono ?_; rintro e w' ⟨rfl, rfl⟩) | (go_at_call 158; refine HA.out.mono ?_; rintro e wA ⟨rfl, hbA⟩; obtain ⟨hcA, hfA⟩ := bcell hbA) | (go_at_call 116; fail))
  have sA : w.heap.size + 1 < wA.heap.size := by have := hbA.size; simp at this; omega
  have a0 : wA.cell? ⟨w.heap.size + 1, 0, none⟩ = some (.int .i64 0) := (hcA _ _ (by simp)).trans (by simp)
  have a1 : wA.cell? ⟨w.heap.size + 1, 1, none⟩ = some (.int .i64 0) := (hcA _ _ (by simp)).trans (by simp)
  have a2 : wA.cell? ⟨w.heap.size + 1, 2, none⟩ = some (.string ⟨#[]⟩) := (hcA _ _ (by simp)).trans (by simp)
  have q0 : wA.cell? ⟨w.heap.size, 0, none⟩ = some (.int .i64 0) := (hcA _ _ (by simp; omega)).trans (by simp)
  have q1 : wA.cell? ⟨w.heap.size, 1, none⟩ = some (.int .i64 0) := (hcA _ _ (by simp; omega)).trans (by simp)
  have q2 : wA.cell? ⟨w.heap.size, 2, none⟩ = some (.string ⟨#[]⟩) := (hcA _ _ (by simp; omega)).trans (by simp)
  have z0 : wA.frozen? ⟨w.heap.size, 0, none⟩ = false := (hfA _ _ (by simp; omega)).trans (by simp)
  have z1 : wA.frozen? ⟨w.heap.size, 1, none⟩ = false := (hfA _ _ (by simp; omega)).trans (by simp)
  have z2 : wA.frozen? ⟨w.heap.size, 2, none⟩ = false := (hfA _ _ (by simp; omega)).trans (by simp)
  have bA : Below w.heap.size w wA := ((below_box w _).alloc (by simp) _).trans (hbA.mono (by simp; omega))
  obtain ⟨WB, hWB⟩ : ∃ WB, WB = ((wA.setCell ⟨w.heap.size + 1, 0, none⟩ (.int .i64 1)).setCell ⟨w.heap.size + 1, 1, none⟩ (.int .i64 n)).setCell ⟨w.heap.size + 1, 2, none⟩ (.string ⟨#[]⟩) := ⟨_, rfl⟩
  have v0 : WB.cell? ⟨w.heap.size + 1, 0, none⟩ = some (.int .i64 1) := by rw [hWB]; simp [go_sem, a0, a1, a2]
  have v1 : WB.cell? ⟨w.heap.size + 1, 1, none⟩ = some (.int .i64 n) := by rw [hWB]; simp [go_sem, a0, a1, a2]
  have v2 : WB.cell? ⟨w.heap.size + 1, 2, none⟩ = some (.string ⟨#[]⟩) := by rw [hWB]; simp [go_sem, a0, a1, a2]
  have r0 : WB.cell? ⟨w.heap.size, 0, none⟩ = some (.int .i64 0) := by rw [hWB]; simp [go_sem, q0]
  have r1 : WB.cell? ⟨w.heap.size, 1, none⟩ = some (.int .i64 0) := by rw [hWB]; simp [go_sem, q1]
  have r2 : WB.cell? ⟨w.heap.size, 2, none⟩ = some (.string ⟨#[]⟩) := by rw [hWB]; simp [go_sem, q2]
  have f0 : WB.frozen? ⟨w.heap.size, 0, none⟩ = false := by rw [hWB]; simp [go_sem, z0]
  have f1 : WB.frozen? ⟨w.heap.size, 1, none⟩ = false := by rw [hWB]; simp [go_sem, z1]
  have f2 : WB.frozen? ⟨w.heap.size, 2, none⟩ = false := by rw [hWB]; simp [go_sem, z2]
  have sz : w.heap.size + 1 < WB.heap.size := by rw [hWB]; simpa [World.setCell] using sA
  have sz0 : w.heap.size < WB.heap.size := by omega
  have bB : Below w.heap.size w WB := by rw [hWB]; exact ((bA.setCell (by simp) _).setCell (by simp) _).setCell (by simp) _
  rw [← hWB]
  clear hWB a0 a1 a2 q0 q1 q2 z0 z1 z2 bA hcA hfA hbA sA HA HP
  have hq := rightValue_any 1 n ⟨#[]⟩ WB (by unfold maxLen; simp [ByteArray.size])
  have hcap : ∀ w1, Env w1 → rightValueB 1 n [] = true → _ := fun w1 h g => value_any 1 n ⟨#[]⟩ w1 (by simp [ByteArray.size]) (by have := (right_small g).2; omega) (by have := (right_small g).2; omega) h
  cases g : rightValueB 1 n []
  · have hn : parseV s.data.toList = none := by rw [HX.out]; simp [g]
    rw [show rightValueB 1 n (ByteArray.mk #[]).data.toList = false from g] at hq
    have HN := Hid.mk hn
    clear hn HX hcap
    refine hq.mono ?_
    rintro e w1 ⟨rfl, hb1⟩
    obtain ⟨hc1, hf1⟩ := bcell hb1
    clear hq
    go_wp2
    have c0 := (hc1 w.heap.size 0 sz0).trans r0
    have c1 := (hc1 w.heap.size 1 sz0).trans r1
    have c2 := (hc1 w.heap.size 2 sz0).trans r2
    clear hc1 hf1
    refine bodyPost_ret (v := pvEnd none) (by simp [results, Tryz.results130, go_sem, c0, c1, c2, pvEnd]) rfl ⟨by rw [HN.out], ?_⟩
    exact (((bB.trans (hb1.mono (Nat.le_of_lt sz0))).setCell (Nat.le_refl _) _).setCell (Nat.le_refl _) _).setCell (Nat.le_refl _) _
  · rw [show rightValueB 1 n (ByteArray.mk #[]).data.toList = true from g] at hq
    have h2 : ∀ w1, Env w1 → _ := fun w1 h => hcap w1 h g
    have HV := Hid.mk h2
    clear h2 hcap
    refine hq.mono ?_
    rintro e w1 ⟨rfl, hb1⟩
    obtain ⟨hc1, hf1⟩ := bcell hb1
    have hE1 : Env w1 := (HE.out.below bB).below hb1
    have HE1 := Hid.mk hE1
    have hz : w.heap.size + 1 < w1.heap.size := by have := hb1.size; omega
    have hz0 : w.heap.size < w1.heap.size := by omega
    clear hq hE1
    cases g2 : (valueL 1 n [] == s.toList)
    · have hn : parseV s.data.toList = none := by
        rw [HX.out, if_neg]
        rintro ⟨-, h⟩
        rw [ByteArray.toList_eq] at g2
        simp [h] at g2
      have HN := Hid.mk hn
      clear hn HX
      go_wp2_with (go_at_call 100; refine (HV.out _ HE1.out).mono ?_; rintro e w2 ⟨rfl, hb2⟩; obtain ⟨hc2, hf2⟩ := bcell hb2)
      have c0 := (hc2 w.heap.size 0 hz0).trans ((hc1 w.heap.size 0 sz0).trans r0)
      have c1 := (hc2 w.heap.size 1 hz0).trans ((hc1 w.heap.size 1 sz0).trans r1)
      have c2 := (hc2 w.heap.size 2 hz0).trans ((hc1 w.heap.size 2 sz0).trans r2)
      clear hc1 hf1 hc2 hf2
      refine bodyPost_ret (v := pvEnd none) (by simp [results, Tryz.results130, go_sem, c0, c1, c2, pvEnd]) rfl ⟨by rw [HN.out], ?_⟩
      exact ((((bB.trans (hb1.mono (Nat.le_of_lt sz0))).trans (hb2.mono (Nat.le_of_lt hz0))).setCell (Nat.le_refl _) _).setCell (Nat.le_refl _) _).setCell (Nat.le_refl _) _
    · have hn : parseV s.data.toList = some (1, n, []) := by
        rw [HX.out, if_pos]
        rw [ByteArray.toList_eq] at g2
        exact ⟨g, by simpa using g2⟩
      have HN := Hid.mk hn
      clear hn HX
      go_wp2_with (go_at_call 100; refine (HV.out _ HE1.out).mono ?_; rintro e w2 ⟨rfl, hb2⟩; obtain ⟨hc2, hf2⟩ := bcell hb2)
      have c0 := (hc2 w.heap.size 0 hz0).trans ((hc1 w.heap.size 0 sz0).trans r0)
      have c1 := (hc2 w.heap.size 1 hz0).trans ((hc1 w.heap.size 1 sz0).trans r1)
      have c2 := (hc2 w.heap.size 2 hz0).trans ((hc1 w.heap.size 2 sz0).trans r2)
      clear hc1 hf1 hc2 hf2
      refine bodyPost_ret (v := pvEnd (some (1, n, []))) (by simp [results, Tryz.results130, go_sem, c0, c1, c2, pvEnd, vlOf]) rfl ⟨by rw [HN.out], ?_⟩
      exact ((((bB.trans (hb1.mono (Nat.le_of_lt sz0))).trans (hb2.mono (Nat.le_of_lt hz0))).setCell (Nat.le_refl _) _).setCell (Nat.le_refl _) _).setCell (Nat.le_refl _) _

set_option maxHeartbeats 1600000 in
theorem parseValue_bad (s : ByteArray) (w : World) (hs : s.size ≤ 1000000) (hE : Env w) (hp : Lib.hasPrefix s.data.toList [39] = false) (ha : ∀ n, Lib.atoiAll s.data.toList ≠ .ok n) :
    Calls Tryz.prog 130 #[.string s] w fun e w' => e = .returned (pvEnd (parseV s.data.toList)) ∧ Below w.heap.size w w' := by
  have hP := Tryz.strings_HasPrefix s ⟨#[39]⟩ ((w.alloc (.cells #[.int .i64 0, .int .i64 0, .string ⟨#[]⟩] 24)).alloc (.cells #[.int .i64 0, .int .i64 0, .string ⟨#[]⟩] 24))
  have hp' : Lib.hasPrefix s.data.toList (ByteArray.mk #[39]).data.toList = false := hp
  rw [hp'] at hP
  have HP := Hid.mk hP
  have hrd : readV s.data.toList = (0, 0, []) := by
    unfold readV
    rw [if_neg (by simp [hp])]
    split
    · rename_i n h; exact absurd h (ha n)
    · rfl
  have hn : parseV s.data.toList = none := by rw [pv_end hrd]; simp [rightValueB]
  have HN := Hid.mk hn
  have HA := Hid.mk (atoi_bad s ((w.alloc (.cells #[.int .i64 0, .int .i64 0, .string ⟨#[]⟩] 24)).alloc (.cells #[.int .i64 0, .int .i64 0, .string ⟨#[]⟩] 24)) hs ha (hE.below ((below_box w _).alloc (by simp) _)))
  clear hP hE hp hp' hrd ha hn
  go_enter Tryz.func130, Tryz.ntmps130
  go_wp2_with (first | (go_at_call 156; refine HP.out.mono ?_; rintro e w' ⟨rfl, rfl⟩) | (go_at_call 158; refine HA.out.mono ?_; rintro e wA ⟨n, t, p, rfl, hbA⟩; obtain ⟨hcA, hfA⟩ := bcell hbA) | (go_at_call 116; fail))
  have sA : w.heap.size + 1 < wA.heap.size := by have := hbA.size; simp at this; omega
  have a0 : wA.cell? ⟨w.heap.size + 1, 0, none⟩ = some (.int .i64 0) := (hcA _ _ (by simp)).trans (by simp)
  have a1 : wA.cell? ⟨w.heap.size + 1, 1, none⟩ = some (.int .i64 0) := (hcA _ _ (by simp)).trans (by simp)
  have a2 : wA.cell? ⟨w.heap.size + 1, 2, none⟩ = some (.string ⟨#[]⟩) := (hcA _ _ (by simp)).trans (by simp)
  have q0 : wA.cell? ⟨w.heap.size, 0, none⟩ = some (.int .i64 0) := (hcA _ _ (by simp; omega)).trans (by simp)
  have q1 : wA.cell? ⟨w.heap.size, 1, none⟩ = some (.int .i64 0) := (hcA _ _ (by simp; omega)).trans (by simp)
  have q2 : wA.cell? ⟨w.heap.size, 2, none⟩ = some (.string ⟨#[]⟩) := (hcA _ _ (by simp; omega)).trans (by simp)
  have z0 : wA.frozen? ⟨w.heap.size, 0, none⟩ = false := (hfA _ _ (by simp; omega)).trans (by simp)
  have z1 : wA.frozen? ⟨w.heap.size, 1, none⟩ = false := (hfA _ _ (by simp; omega)).trans (by simp)
  have z2 : wA.frozen? ⟨w.heap.size, 2, none⟩ = false := (hfA _ _ (by simp; omega)).trans (by simp)
  have bA : Below w.heap.size w wA := ((below_box w _).alloc (by simp) _).trans (hbA.mono (by simp; omega))
  clear hcA hfA HA HP hbA
  refine (rightValue_any 0 0 ⟨#[]⟩ wA (by unfold maxLen; simp [ByteArray.size])).mono ?_
  rintro e w1 ⟨rfl, hb1⟩
  rw [show rightValueB 0 0 (ByteArray.mk #[]).data.toList = false from rfl]
  obtain ⟨hc1, hf1⟩ := bcell hb1
  have sz0 : w.heap.size < wA.heap.size := by omega
  go_wp2
  have c0 := (hc1 w.heap.size 0 sz0).trans q0
  have c1 := (hc1 w.heap.size 1 sz0).trans q1
  have c2 := (hc1 w.heap.size 2 sz0).trans q2
  clear hc1 hf1
  refine bodyPost_ret (v := pvEnd none) (by simp [results, Tryz.results130, go_sem, c0, c1, c2, pvEnd]) rfl ⟨by rw [HN.out], ?_⟩
  exact (((bA.trans (hb1.mono (Nat.le_of_lt sz0))).setCell (Nat.le_refl _) _).setCell (Nat.le_refl _) _).setCell (Nat.le_refl _) _

theorem parseValue_any (s : ByteArray) (w : World) (hs : s.size ≤ 1000000) (hE : Env w) :
    Calls Tryz.prog 130 #[.string s] w fun e w' => e = .returned (pvEnd (parseV s.data.toList)) ∧ Below w.heap.size w w' := by
  cases hp : Lib.hasPrefix s.data.toList [39]
  · by_cases h : ∃ n, Lib.atoiAll s.data.toList = .ok n
    · obtain ⟨n, hn⟩ := h
      exact parseValue_num s w n hs hE hp hn
    · exact parseValue_bad s w hs hE hp (fun n e => h ⟨n, e⟩)
  · exact parseValue_quote s w hs hE hp
end Go.Proofs.YtjceppinfjbegaaGreatDoor

