import Derived.Test.YtkdbidcofamkcaaGreatDoorWalkW
import Derived.Test.YtkdbidcofamkcaaGreatDoorMathE
set_option linter.unusedSimpArgs false
set_option linter.unusedVariables false
namespace Go.Proofs.YtkdbidcofamkcaaGreatDoor
open Go.RowKit

set_option maxHeartbeats 400000 in
theorem pick_any (a n : Int) (w : World) (h0 : 0 < n) (h1 : n ≤ 1000000) : Calls Tryz.prog 31 #[.int .i64 a, .int .i64 n] w fun e w' => ∃ k : Nat, e = .returned (.int .i64 k) ∧ (k : Int) < n ∧ w' = w := by
  go_enter Tryz.func31, Tryz.ntmps31
  go_wp2
  have hx := wrap_u64_nonneg a
  generalize IntKind.u64.wrap a = x at hx ⊢
  have g0 := Int.tmod_nonneg n hx
  have g1 := Int.tmod_lt_of_pos x h0
  have e : wrap64 (x.tmod n) = ((x.tmod n).toNat : Int) := by unfold wrap64; omega
  rw [e]
  go_ret
  exact ⟨_, rfl, by omega, rfl⟩

theorem RowsIs.take {w : World} {a : Option Addr} {c : Nat} {rs : List (List Vl)} (h : RowsIs w (.slice a rs.length c) rs) (m : Nat) (hm : m ≤ rs.length) (c' : Nat) : RowsIs w (.slice a m c') (rs.take m) := by
  obtain ⟨a1, c1, e, h⟩ := h
  simp only [Value.slice.injEq] at e
  obtain ⟨rfl, -, rfl⟩ := e
  refine ⟨a, c', by rw [List.length_take]; congr 1; omega, ?_⟩
  rcases h with rfl | ⟨b, o, rfl, hl, hat⟩
  · exact Or.inl (by simp)
  · refine Or.inr ⟨b, o, rfl, hl, fun j hj => ?_⟩
    rw [List.length_take] at hj
    obtain ⟨u, h1, h2⟩ := hat j (by omega)
    exact ⟨u, h1, by rw [List.getElem_take]; exact h2⟩

set_option maxRecDepth 100000 in
set_option maxHeartbeats 1600000 in
theorem cuts_any (vc vr : Value) (cs : List Cl) (rs : List (List Vl)) (cut : Int) (w : World) (hc : ColsIs w vc cs) (hr : RowsIs w vr rs) (hq : ∀ a n c, vr = .slice a n c → n ≤ c) (hE : Env w) :
    Calls Tryz.prog 5 #[.agg #[vc, vr], .int .i64 cut] w fun e w' => e = .returned (.bool true) ∧ Below w.heap.size w w' := by
  have hc0 := hc.below (below_box w (.cells #[vc, vr] 25))
  have hr0 := hr.below (below_box w (.cells #[vc, vr] 25))
  have hE0 := hE.below (below_box w (.cells #[vc, vr] 25))
  have hS := small_any vc vr cs rs _ hc0 hr0
  cases gs : smallB cs rs
  · rw [gs] at hS
    have HS := Hid.mk hS
    clear hS gs hc0 hr0 hE0
    obtain ⟨a, c, rfl, -, -, -⟩ := hc
    obtain ⟨a', c', rfl, -⟩ := hr
    go_enter Tryz.func5, Tryz.ntmps5
    go_wp2_with (go_at_call 28; refine HS.out.mono ?_; rintro e w1 ⟨rfl, hb1⟩)
    go_ret
    exact ⟨rfl, bel_then (below_box _ _) hb1⟩
  · rw [gs] at hS
    have HS := Hid.mk hS
    have HC := Hid.mk hc0
    have HR := Hid.mk hr0
    have HE := Hid.mk hE0
    clear hE hc0 hr0 hE0 hS gs
    obtain ⟨a, c, rfl, -, -, -⟩ := hc
    obtain ⟨a', c', rfl, -⟩ := hr
    have hcap := hq _ _ _ rfl
    clear hq
    go_enter Tryz.func5, Tryz.ntmps5
    go_wp2_with (first | (go_at_call 28; refine HS.out.mono ?_; rintro e w1 ⟨rfl, hb1⟩; obtain ⟨hcb1, hfb1⟩ := bcell hb1) | (go_at_call 29; refine (written_any _ (HE.out.below hb1)).mono ?_; rintro e w2 ⟨rfl, hb2⟩; have t0 := ((bel_then hb1 hb2).cell (p := ⟨w.heap.size, 0, none⟩) (by simp)).trans (show _ = some (Value.slice a cs.length c) by simp); have t1 := ((bel_then hb1 hb2).cell (p := ⟨w.heap.size, 1, none⟩) (by simp)).trans (show _ = some (Value.slice a' rs.length c') by simp)) | (go_at_call 20; fail))
    have HB := Hid.mk (bel_then hb1 hb2)
    clear hb1 hb2 HS
    cases gr : rightB cs rs
    · have hPB := print_bad _ _ cs rs w2 (HC.out.below HB.out) (HR.out.below HB.out) gr
      refine hPB.mono ?_
      clear hPB
      rintro e w3 ⟨rfl, hb3⟩
      go_wp2
      go_ret
      exact ⟨rfl, bel_then (bel_then (below_box _ _) HB.out) hb3⟩
    · have hPO := print_ok _ _ cs rs w2 (HC.out.below HB.out) (HR.out.below HB.out) (HE.out.below HB.out) gr
      refine hPO.mono ?_
      clear hPO
      rintro e w3 ⟨rfl, hb3⟩
      have HB3 := Hid.mk (bel_then HB.out hb3)
      have r0 := (HB3.out.cell (p := ⟨w.heap.size, 0, none⟩) (by simp)).trans (show _ = some (Value.slice a cs.length c) by simp)
      have r1 := (HB3.out.cell (p := ⟨w.heap.size, 1, none⟩) (by simp)).trans (show _ = some (Value.slice a' rs.length c') by simp)
      have hl := print_short gr
      obtain ⟨u, hu⟩ : ∃ x : ByteArray, x = ⟨(printL cs rs).toArray⟩ := ⟨_, rfl⟩
      have hd : u.data.toList = printL cs rs := by rw [hu]
      have hus : u.size = (printL cs rs).length := by rw [hu]; simp [ByteArray.size]
      rw [← hu]
      have HD := Hid.mk hd
      have HG := Hid.mk gr
      rw [← hus] at hl
      clear hd hu hus gr hb3
      go_wp2_with (first | (go_at_call 31; refine (pick_any _ _ _ (by omega) (by omega)).mono ?_; rintro e wq ⟨k, rfl, hk, rfl⟩) | (go_at_call 25; fail))
      have hk' : k ≤ u.size := by omega
      have hdt : (u.extract 0 k).data.toList = (printL cs rs).take k := by rw [extract_take, HD.out]
      have hsz : (u.extract 0 k).size ≤ 100000 := by rw [ByteArray.size_extract]; omega
      have hPk := parse_any (u.extract 0 k) wq hsz (HE.out.below HB3.out)
      rw [hdt] at hPk
      have hCT := fun ww => Tryz.strings_Count_one (u.extract 0 k) 10 ww
      have hSX := fun ww => Tryz.strings_HasSuffix (u.extract 0 k) ⟨#[10]⟩ ww (by omega)
      rw [hdt] at hCT hSX
      clear hdt HD
      unfold Lib.countByte at hCT
      rw [show (ByteArray.mk #[10]).data.toList = [10] from rfl] at hSX
      have hcle : ((printL cs rs).take k).count 10 ≤ 100000 := by
        have h1 := List.count_le_length (l := (printL cs rs).take k) (a := 10)
        rw [List.length_take] at h1
        have h2 := print_short HG.out
        omega
      cases hsf : Lib.hasSuffix ((printL cs rs).take k) [10]
      · obtain ⟨⟨x, p⟩, he⟩ := cut_none _ (Or.inr hsf)
        rw [he] at hPk
        rw [hsf] at hSX
        have HSX := Hid.mk hSX
        refine hPk.mono ?_
        clear hPk he hsf hSX
        rintro e w4 ⟨hb4, hpe⟩
        obtain ⟨Nn, rfl, -, -, -⟩ := hpe
        generalize ((printL cs rs).take k).count 10 = n at hCT hcle
        have HCT := Hid.mk hCT
        clear hCT
        by_cases hn : n = 0
        · subst hn
          go_wp2_with (first | (go_at_call 32; refine (HCT.out _).mono ?_; rintro e wc ⟨rfl, rfl⟩) | (go_at_call 33; refine (HSX.out _).mono ?_; rintro e wd ⟨rfl, rfl⟩))
          go_ret
          exact ⟨rfl, bel_then (bel_then (below_box _ _) HB3.out) (bel_box hb4 _)⟩
        · have hn' : ((n : Int) == 0) = false := by simp; omega
          go_wp2_with (first | (go_at_call 32; refine (HCT.out _).mono ?_; rintro e wc ⟨rfl, rfl⟩) | (go_at_call 33; refine (HSX.out _).mono ?_; rintro e wd ⟨rfl, rfl⟩))
          go_ret
          exact ⟨rfl, bel_then (bel_then (below_box _ _) HB3.out) (bel_box hb4 _)⟩
      · by_cases hn : ((printL cs rs).take k).count 10 = 0
        · obtain ⟨⟨x, p⟩, he⟩ := cut_none _ (Or.inl hn)
          rw [he] at hPk
          rw [hn] at hCT
          have HCT := Hid.mk hCT
          refine hPk.mono ?_
          clear hPk he hsf hSX hCT hn hcle
          rintro e w4 ⟨hb4, hpe⟩
          obtain ⟨Nn, rfl, -, -, -⟩ := hpe
          go_wp2_with (go_at_call 32; refine (HCT.out _).mono ?_; rintro e wc ⟨rfl, rfl⟩)
          go_ret
          exact ⟨rfl, bel_then (bel_then (below_box _ _) HB3.out) (bel_box hb4 _)⟩
        · obtain ⟨hnr, hpt⟩ := cut_whole HG.out k hn hsf
          rw [hpt, write_read (right_take HG.out _)] at hPk
          rw [hsf] at hSX
          clear hpt hsf
          obtain ⟨n, hn1⟩ : ∃ n, ((printL cs rs).take k).count 10 = n + 1 := ⟨((printL cs rs).take k).count 10 - 1, by omega⟩
          rw [hn1] at hPk hCT hnr hcle
          rw [show n + 1 - 1 = n by omega] at hPk hnr
          clear hn hn1
          have HSX := Hid.mk hSX
          have HCT := Hid.mk hCT
          refine hPk.mono ?_
          clear hPk hSX hCT
          rintro e w4 ⟨hb4, hpe⟩
          obtain ⟨vc8, vr8, rfl, hc8, hr8⟩ := hpe
          rw [rows_unvl] at hr8
          have hn0 : (((n + 1 : Nat) : Int) == 0) = false := by simp; omega
          have HB4 := Hid.mk (bel_then HB3.out hb4)
          have q0 := (HB4.out.cell (p := ⟨w.heap.size, 0, none⟩) (by simp)).trans (show _ = some (Value.slice a cs.length c) by simp)
          have q1 := (HB4.out.cell (p := ⟨w.heap.size, 1, none⟩) (by simp)).trans (show _ = some (Value.slice a' rs.length c') by simp)
          have hz8 : w.heap.size < w4.heap.size := by have := HB4.out.size; simp at this; omega
          have HC8 := Hid.mk hc8
          have HR8 := Hid.mk hr8
          obtain ⟨a8, c8, rfl, -, -, -⟩ := hc8
          obtain ⟨a9, c9, rfl, -⟩ := hr8
          rw [List.length_take, Nat.min_eq_left hnr] at HR8 ⊢
          go_wp2_with (first | (go_at_call 32; refine (HCT.out _).mono ?_; rintro e wc ⟨rfl, rfl⟩) | (go_at_call 33; refine (HSX.out _).mono ?_; rintro e wd ⟨rfl, rfl⟩) | (go_at_call 30; fail))
          obtain ⟨hcr, hl60, hrr⟩ := right_cols HG.out
          have h6 := rightCols_len hcr
          have k1 := cell_regrown (w := w4.alloc (.cells #[.slice a8 cs.length c8, .slice a9 n c9] 25)) (a := ⟨w4.heap.size, 0, none⟩) (v := .slice a8 cs.length c8) (by simp)
          have k2 := cell_regrown (w := w4.alloc (.cells #[.slice a8 cs.length c8, .slice a9 n c9] 25)) (a := ⟨w4.heap.size, 1, none⟩) (v := .slice a9 n c9) (by simp)
          have k3 := cell_regrown (w := w4.alloc (.cells #[.slice a8 cs.length c8, .slice a9 n c9] 25)) (a := ⟨w.heap.size, 0, none⟩) (v := .slice a cs.length c) (by rw [World.cell?_alloc_past _ _ _ hz8]; exact q0)
          have k4 := cell_regrown (w := w4.alloc (.cells #[.slice a8 cs.length c8, .slice a9 n c9] 25)) (a := ⟨w.heap.size, 1, none⟩) (v := .slice a' rs.length c') (by rw [World.cell?_alloc_past _ _ _ hz8]; exact q1)
          have cS : ∀ d os, _ := fun d os => Calls.regrown_of (same_any (.slice a8 cs.length c8) (.slice a9 n c9) (.slice a cs.length c) (.slice a' n c') cs (rs.take n) (Sort.grow (redrawn (w4.alloc (.cells #[.slice a8 cs.length c8, .slice a9 n c9] 25)) d) os)
            ((HC8.out.below (below_box _ _)).below (below_regrown _ d os)) ((HR8.out.below (below_box _ _)).below (below_regrown _ d os)) (((HC.out.below HB4.out).below (below_box _ _)).below (below_regrown _ d os)) (((RowsIs.take (HR.out.below HB4.out) n hnr c').below (below_box _ _)).below (below_regrown _ d os))
            (by omega) (by rw [List.length_take]; omega) (fun r hr' => by have := rowOK_len r cs (hrr r (List.mem_of_mem_take hr')); omega))
          have HZ := Hid.mk (bel_box HB4.out (.cells #[.slice a8 cs.length c8, .slice a9 n c9] 25))
          clear hcr hrr
          refine wp_region_quiet_below (by kernel_rfl) (by kernel_rfl) ?_
          repeat (any_goals (first | go_big_quiet_step (exact cS _ _) | quiet_step (exact cS _ _)))
          refine wpQuiet_nil ?_
          intro _ hw'
          obtain ⟨⟨dq, osq⟩, hw''⟩ := hw'
          subst hw''
          go_wp2
          go_ret
          exact ⟨rfl, bel_then (bel_then (below_box _ _) HZ.out) (below_regrown _ dq osq)⟩
end Go.Proofs.YtkdbidcofamkcaaGreatDoor
