import Derived.Test.YtkdbidcofamkcaaGreatDoorWalkV
set_option linter.unusedSimpArgs false
set_option linter.unusedVariables false
namespace Go.Proofs.YtkdbidcofamkcaaGreatDoor
open Go.RowKit

theorem join_short (m : Nat) : ∀ (xs : List (List UInt8)), (∀ x ∈ xs, x.length ≤ m) → (Lib.join xs [32]).length ≤ xs.length * (m + 1)
  | [], _ => by simp [Lib.join]
  | [x], h => by rw [Lib.join_one]; have := h x (by simp); simp; omega
  | x :: y :: r, h => by
    have ih := join_short m (y :: r) (fun z hz => h z (by simp at hz ⊢; exact Or.inr hz))
    have h1 := h x (by simp)
    have e : (x :: y :: r).length * (m + 1) = (y :: r).length * (m + 1) + (m + 1) := by simp [Nat.succ_mul]
    rw [join_two, e, List.length_append, List.length_cons]
    omega
theorem flat_short (m : Nat) : ∀ (rs : List (List Vl)), (∀ r ∈ rs, (rowL r).length ≤ m) → (rs.flatMap rowL).length ≤ rs.length * m
  | [], _ => by simp
  | r :: q, h => by
    have h1 := h r (by simp)
    have h2 := flat_short m q (fun x hx => h x (by simp [hx]))
    rw [List.flatMap_cons, List.length_append, List.length_cons, Nat.succ_mul]
    omega
theorem print_short {cs : List Cl} {rs : List (List Vl)} (h : rightB cs rs = true) : (printL cs rs).length ≤ 100000 := by
  obtain ⟨hc, hl, hr⟩ := right_cols h
  have h6 := rightCols_len hc
  have a := join_short 1000 (cs.map fun c => (headB c).data.toList) (by
    intro x hx
    rw [List.mem_map] at hx
    obtain ⟨c, hc', rfl⟩ := hx
    have := head_size (cols_each hc c hc').1
    simpa using this)
  have b := flat_short 187 rs (by
    intro r hr'
    have hro := hr r hr'
    have hrl := rowOK_len r cs hro
    have := join_short 30 (r.map fun v => valueL v.1 v.2.1 v.2.2.data.toList) (by
      intro x hx
      rw [List.mem_map] at hx
      obtain ⟨v, hv, rfl⟩ := hx
      exact (text_len (rowOK_each r cs hro v hv)).1)
    simp only [rowL, lineL, List.length_append, List.length_cons, List.length_nil]
    rw [List.length_map] at this
    omega)
  rw [List.length_map] at a
  simp only [printL, headL, lineL, List.length_append, List.length_cons, List.length_nil]
  omega

set_option maxRecDepth 100000 in
set_option maxHeartbeats 1600000 in
theorem back_any (vc vr : Value) (cs : List Cl) (rs : List (List Vl)) (s : ByteArray) (w : World) (hc : ColsIs w vc cs) (hr : RowsIs w vr rs) (hE : Env w) (hs : s.size ≤ maxLen) :
    Calls Tryz.prog 4 #[.agg #[vc, vr], .string s] w fun e w' => e = .returned (.bool true) ∧ Below w.heap.size w w' := by
  unfold maxLen at hs
  have hc0 := hc.below (below_box w (.cells #[vc, vr] 25))
  have hr0 := hr.below (below_box w (.cells #[vc, vr] 25))
  have hE0 := hE.below (below_box w (.cells #[vc, vr] 25))
  have hS := small_any vc vr cs rs _ hc0 hr0
  cases gs : smallB cs rs
  · rw [gs] at hS
    have HS := Hid.mk hS
    clear hS gs hc0 hr0 hE0
    obtain ⟨a, c, rfl, -, -, -⟩ := hc
    obtain ⟨a', c', rfl, -⟩ := hr
    go_enter Tryz.func4, Tryz.ntmps4
    go_wp2_with (go_at_call 28; refine HS.out.mono ?_; rintro e w1 ⟨rfl, hb1⟩)
    go_ret
    exact ⟨rfl, bel_then (below_box _ _) hb1⟩
  · rw [gs] at hS
    have HS := Hid.mk hS
    clear hS gs
    by_cases h1500 : (1500 : Int) < (s.size : Int)
    · clear hc0 hr0 hE0
      obtain ⟨a, c, rfl, -, -, -⟩ := hc
      obtain ⟨a', c', rfl, -⟩ := hr
      go_enter Tryz.func4, Tryz.ntmps4
      go_wp2_with (go_at_call 28; refine HS.out.mono ?_; rintro e w1 ⟨rfl, hb1⟩)
      go_ret
      exact ⟨rfl, bel_then (below_box _ _) hb1⟩
    · have HC := Hid.mk hc0
      have HR := Hid.mk hr0
      have HE := Hid.mk hE0
      clear hE hc0 hr0 hE0
      obtain ⟨a, c, rfl, -, -, -⟩ := hc
      obtain ⟨a', c', rfl, -⟩ := hr
      go_enter Tryz.func4, Tryz.ntmps4
      go_wp2_with (first | (go_at_call 28; refine HS.out.mono ?_; rintro e w1 ⟨rfl, hb1⟩) | (go_at_call 29; refine (written_any _ (HE.out.below hb1)).mono ?_; rintro e w2 ⟨rfl, hb2⟩) | (go_at_call 25; fail))
      have hb12 := bel_then hb1 hb2
      have t0 := (hb12.cell (p := ⟨w.heap.size, 0, none⟩) (by simp)).trans (show _ = some (Value.slice a cs.length c) by simp)
      have t1 := (hb12.cell (p := ⟨w.heap.size, 1, none⟩) (by simp)).trans (show _ = some (Value.slice a' rs.length c') by simp)
      have hz2 : w.heap.size < w2.heap.size := by have := hb12.size; simp at this; omega
      have hP := parse_any s w2 (by omega) (HE.out.below hb12)
      have HB := Hid.mk hb12
      clear hb1 hb2 hb12 HS
      cases hp : parseT s.data.toList with
      | error xp =>
        rw [hp] at hP
        refine hP.mono ?_
        clear hP hp
        rintro e w3 ⟨hb3, hpe⟩
        obtain ⟨x, p⟩ := xp
        obtain ⟨N, rfl, -, -, -⟩ := hpe
        have hb03 := bel_then HB.out hb3
        clear hb3
        have s0 := (hb03.cell (p := ⟨w.heap.size, 0, none⟩) (by simp)).trans (show _ = some (Value.slice a cs.length c) by simp)
        have s1 := (hb03.cell (p := ⟨w.heap.size, 1, none⟩) (by simp)).trans (show _ = some (Value.slice a' rs.length c') by simp)
        have hz3 : w.heap.size < w3.heap.size := by have := hb03.size; simp at this; omega
        have HB3 := Hid.mk hb03
        clear hb03
        go_wp2_with (go_at_call 20; fail)
        have HZ := Hid.mk (bel_box HB3.out (.cells #[.slice none 0 0, .slice none 0 0] 25))
        -- the table itself: _ is the world ahead of it
        cases gr : rightB cs rs
        · have hPB := print_bad _ _ cs rs _ (HC.out.below HZ.out) (HR.out.below HZ.out) gr
          refine hPB.mono ?_
          clear hPB
          rintro e w7 ⟨rfl, hb7⟩
          have hb07 := bel_then HZ.out hb7
          have r0 := (hb07.cell (p := ⟨w.heap.size, 0, none⟩) (by simp)).trans (show _ = some (Value.slice a cs.length c) by simp)
          have r1 := (hb07.cell (p := ⟨w.heap.size, 1, none⟩) (by simp)).trans (show _ = some (Value.slice a' rs.length c') by simp)
          have hz7 : w.heap.size < w7.heap.size := by have := hb07.size; simp at this; omega
          have hRT := right_any _ _ cs rs w7 (HC.out.below hb07) (HR.out.below hb07)
          rw [gr] at hRT
          have HRT := Hid.mk hRT
          have HB7 := Hid.mk hb07
          clear hb7 hb07 hRT gr
          go_wp2_with (go_at_call 11; refine HRT.out.mono ?_; rintro e w8 ⟨rfl, hb8⟩)
          go_ret
          exact ⟨rfl, bel_then (bel_then (below_box _ _) HB7.out) hb8⟩
        · have hPO := print_ok _ _ cs rs _ (HC.out.below HZ.out) (HR.out.below HZ.out) (HE.out.below HZ.out) gr
          refine hPO.mono ?_
          clear hPO
          rintro e w7 ⟨rfl, hb7⟩
          have hb07 := bel_then HZ.out hb7
          have hPU := parse_any ⟨(printL cs rs).toArray⟩ w7 (by have := print_short gr; simpa [ByteArray.size] using this) (HE.out.below hb07)
          rw [show (ByteArray.mk (printL cs rs).toArray).data.toList = printL cs rs from rfl, write_read gr] at hPU
          have HPU := Hid.mk hPU
          have HG := Hid.mk gr
          have HB7 := Hid.mk hb07
          clear hPU hb7 hb07 gr
          go_wp2_with (go_at_call 25; fail)
          refine HPU.out.mono ?_
          clear HPU
          rintro e w8 ⟨hb8, hpe8⟩
          obtain ⟨vc8, vr8, rfl, hc8, hr8⟩ := hpe8
          rw [rows_unvl] at hr8
          have hb08 := bel_then HB7.out hb8
          have r0 := (hb08.cell (p := ⟨w.heap.size, 0, none⟩) (by simp)).trans (show _ = some (Value.slice a cs.length c) by simp)
          have r1 := (hb08.cell (p := ⟨w.heap.size, 1, none⟩) (by simp)).trans (show _ = some (Value.slice a' rs.length c') by simp)
          have hz8 : w.heap.size < w8.heap.size := by have := hb08.size; simp at this; omega
          obtain ⟨hcr, hl60, hrr⟩ := right_cols HG.out
          have h6 := rightCols_len hcr
          have hSM := fun o => same_any vc8 vr8 _ _ cs rs (w8.alloc o) (hc8.below (below_box _ _)) (hr8.below (below_box _ _)) ((HC.out.below hb08).below (below_box _ _)) ((HR.out.below hb08).below (below_box _ _)) (by omega) (by omega) (fun r hr' => by have := rowOK_len r cs (hrr r hr'); omega)
          have HSM := Hid.mk hSM
          have HB8 := Hid.mk hb08
          clear hSM hb8 hb08 h6 hcr hl60 hrr
          obtain ⟨a8, c8, rfl, -, -, -⟩ := hc8
          obtain ⟨a9, c9, rfl, -⟩ := hr8
          go_wp2_with (go_at_call 30; refine (HSM.out _).mono ?_; rintro e w9 ⟨rfl, hb9⟩)
          go_ret
          exact ⟨rfl, bel_then (bel_then (below_box _ _) (bel_box HB8.out _)) hb9⟩
      | ok ct =>
        rw [hp] at hP
        refine hP.mono ?_
        clear hP
        rintro e w3 ⟨hb3, hpe⟩
        obtain ⟨cs2, rs2⟩ := ct
        obtain ⟨hrg, hpr⟩ := read_write hp
        clear hp
        obtain ⟨vc2, vr2, rfl, hc2, hr2⟩ := hpe
        generalize rs2.map (·.map vl) = rr2 at hrg hpr hr2
        have hb03 := bel_then HB.out hb3
        clear hb3
        have HB3 := Hid.mk hb03
        have hq := fun o => print_ok vc2 vr2 cs2 rr2 (w3.alloc o) (hc2.below (below_box _ _)) (hr2.below (below_box _ _)) ((HE.out.below hb03).below (below_box _ _)) hrg
        rw [hpr, ← str_of (x := s) rfl] at hq
        have HQ := Hid.mk hq
        have HT := Hid.mk (fun w4 (h : Below w3.heap.size w3 w4) => right_any vc2 vr2 cs2 rr2 w4 (hc2.below h) (hr2.below h))
        rw [hrg] at HT
        clear hq hb03 hrg hpr
        obtain ⟨a2, c2, rfl, -, -, -⟩ := hc2
        obtain ⟨a3, c3, rfl, -⟩ := hr2
        go_wp2_with (go_at_call 20; fail)
        refine (HQ.out _).mono ?_
        clear HQ
        rintro e w4 ⟨rfl, hb4⟩
        have hb34 := bel_then (below_box _ _) hb4
        have u0 := (hb4.cell (p := ⟨w3.heap.size, 0, none⟩) (by simp)).trans (show _ = some (Value.slice a2 cs2.length c2) by simp)
        have u1 := (hb4.cell (p := ⟨w3.heap.size, 1, none⟩) (by simp)).trans (show _ = some (Value.slice a3 rr2.length c3) by simp)
        have HB4 := Hid.mk (bel_then HB3.out hb34)
        have HT4 := Hid.mk (HT.out w4 hb34)
        clear HT hb34 hb4
        go_wp2_with (go_at_call 11; fail)
        refine HT4.out.mono ?_
        clear HT4
        rintro e w5 ⟨rfl, hb5⟩
        have HZ := Hid.mk (bel_then HB4.out hb5)
        have s0 := (HZ.out.cell (p := ⟨w.heap.size, 0, none⟩) (by simp)).trans (show _ = some (Value.slice a cs.length c) by simp)
        have s1 := (HZ.out.cell (p := ⟨w.heap.size, 1, none⟩) (by simp)).trans (show _ = some (Value.slice a' rs.length c') by simp)
        have hz5 : w.heap.size < w5.heap.size := by have := HZ.out.size; simp at this; omega
        clear hb5
        go_wp2_with (go_at_call 20; fail)
        -- the table itself: _ is the world ahead of it
        cases gr : rightB cs rs
        · have hPB := print_bad _ _ cs rs _ (HC.out.below HZ.out) (HR.out.below HZ.out) gr
          refine hPB.mono ?_
          clear hPB
          rintro e w7 ⟨rfl, hb7⟩
          have hb07 := bel_then HZ.out hb7
          have r0 := (hb07.cell (p := ⟨w.heap.size, 0, none⟩) (by simp)).trans (show _ = some (Value.slice a cs.length c) by simp)
          have r1 := (hb07.cell (p := ⟨w.heap.size, 1, none⟩) (by simp)).trans (show _ = some (Value.slice a' rs.length c') by simp)
          have hz7 : w.heap.size < w7.heap.size := by have := hb07.size; simp at this; omega
          have hRT := right_any _ _ cs rs w7 (HC.out.below hb07) (HR.out.below hb07)
          rw [gr] at hRT
          have HRT := Hid.mk hRT
          have HB7 := Hid.mk hb07
          clear hb7 hb07 hRT gr
          go_wp2_with (go_at_call 11; refine HRT.out.mono ?_; rintro e w8 ⟨rfl, hb8⟩)
          go_ret
          exact ⟨rfl, bel_then (bel_then (below_box _ _) HB7.out) hb8⟩
        · have hPO := print_ok _ _ cs rs _ (HC.out.below HZ.out) (HR.out.below HZ.out) (HE.out.below HZ.out) gr
          refine hPO.mono ?_
          clear hPO
          rintro e w7 ⟨rfl, hb7⟩
          have hb07 := bel_then HZ.out hb7
          have hPU := parse_any ⟨(printL cs rs).toArray⟩ w7 (by have := print_short gr; simpa [ByteArray.size] using this) (HE.out.below hb07)
          rw [show (ByteArray.mk (printL cs rs).toArray).data.toList = printL cs rs from rfl, write_read gr] at hPU
          have HPU := Hid.mk hPU
          have HG := Hid.mk gr
          have HB7 := Hid.mk hb07
          clear hPU hb7 hb07 gr
          go_wp2_with (go_at_call 25; fail)
          refine HPU.out.mono ?_
          clear HPU
          rintro e w8 ⟨hb8, hpe8⟩
          obtain ⟨vc8, vr8, rfl, hc8, hr8⟩ := hpe8
          rw [rows_unvl] at hr8
          have hb08 := bel_then HB7.out hb8
          have r0 := (hb08.cell (p := ⟨w.heap.size, 0, none⟩) (by simp)).trans (show _ = some (Value.slice a cs.length c) by simp)
          have r1 := (hb08.cell (p := ⟨w.heap.size, 1, none⟩) (by simp)).trans (show _ = some (Value.slice a' rs.length c') by simp)
          have hz8 : w.heap.size < w8.heap.size := by have := hb08.size; simp at this; omega
          obtain ⟨hcr, hl60, hrr⟩ := right_cols HG.out
          have h6 := rightCols_len hcr
          have hSM := fun o => same_any vc8 vr8 _ _ cs rs (w8.alloc o) (hc8.below (below_box _ _)) (hr8.below (below_box _ _)) ((HC.out.below hb08).below (below_box _ _)) ((HR.out.below hb08).below (below_box _ _)) (by omega) (by omega) (fun r hr' => by have := rowOK_len r cs (hrr r hr'); omega)
          have HSM := Hid.mk hSM
          have HB8 := Hid.mk hb08
          clear hSM hb8 hb08 h6 hcr hl60 hrr
          obtain ⟨a8, c8, rfl, -, -, -⟩ := hc8
          obtain ⟨a9, c9, rfl, -⟩ := hr8
          go_wp2_with (go_at_call 30; refine (HSM.out _).mono ?_; rintro e w9 ⟨rfl, hb9⟩)
          go_ret
          exact ⟨rfl, bel_then (bel_then (below_box _ _) (bel_box HB8.out _)) hb9⟩
end Go.Proofs.YtkdbidcofamkcaaGreatDoor
