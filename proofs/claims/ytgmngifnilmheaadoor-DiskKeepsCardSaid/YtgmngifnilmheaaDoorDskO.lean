import Derived.Test.YtgmngifnilmheaaDoorDskN
import Derived.Test.YtgmngifnilmheaaDoorDskF
import Derived.Stop.Asserts
set_option linter.unusedSimpArgs false
set_option linter.unusedVariables false
namespace Go.Proofs.YtgmngifnilmheaaDoor.Dk
open Go.RowKit

/-- The text of a sector behind some writes. -/
def uptoL (k : Nat) (s : Bs) (l : List (Nat × Bs)) : Bs := (lastL k l).getD s
theorem last_snoc (k : Nat) : ∀ (l : List (Nat × Bs)) (x : Nat × Bs), lastL k (l ++ [x]) = if x.1 = k then some x.2 else lastL k l
  | [], x => by simp [lastL]
  | y :: r, x => by
    rw [List.cons_append, lastL, last_snoc k r x, lastL]
    split
    · rfl
    · rfl
theorem upto_snoc (k : Nat) (s : Bs) (l : List (Nat × Bs)) (x : Nat × Bs) : uptoL k s (l ++ [x]) = if x.1 = k then x.2 else uptoL k s l := by
  unfold uptoL
  rw [last_snoc]
  split <;> rfl
set_option maxRecDepth 100000 in
set_option maxHeartbeats 1600000 in
theorem rread_any (R : Nat) (vS vA vW : Value) (d : St) (k : Nat) (w : World) (h : Ref w R vS vA vW d) (hk : k < d.sure.length) :
    Calls Tryd.prog 17 #[.pointer (some ⟨R, 0, none⟩), .int .i64 k] w fun e w' => e = .returned (.tuple #[.string (tx (d.read k)), .int .i64 0]) ∧ w' = w := by
  have H := hid h
  obtain ⟨gS, cS, hvS, -, hgS⟩ := h.oS.form (by omega)
  subst hvS
  obtain ⟨va, vc, hv, hvc⟩ := own_form h.oA
  subst hv
  obtain ⟨wa, wc, hv, hwc⟩ := own_form h.oW
  subst hv
  have c0 := h.c0
  have c1 := h.c1
  have c2 := h.c2
  have h0 : d.ws.length ≤ 1000000 := h.ok.few
  have hkI : (k : Int) < (d.sure.length : Int) := by omega
  have s0 : w.cell? ⟨gS, k, none⟩ = some (.string (tx d.sure[k])) := (h.oS.cellAt k (by omega)).trans (sur_at _ _ hk)
  obtain ⟨t, ht⟩ : ∃ t, d.sure[k] = t := ⟨_, rfl⟩
  rw [ht] at s0
  have HT := hid ht
  clear ht
  go_enter Tryd.func17, Tryd.ntmps17
  go_wp2
  go_loop [6, 32] (fun s i => ∃ j : Nat, j ≤ d.ws.length ∧ i = .int .i64 j ∧ s = .string (tx (uptoL k t (d.ws.take j)))) (fun s i => d.ws.length - (intOf i).toNat)
  case atStart => exact ⟨0, Nat.zero_le _, rfl, rfl⟩
  case round =>
    obtain ⟨j, hj, rfl, rfl⟩ := hrel
    by_cases hlt : j < d.ws.length
    · obtain ⟨gA, cA, e, -, -⟩ := H.out.oA.form (by omega)
      injection e with e1 e2 e3
      subst e1
      obtain ⟨gW, cW, e, -, -⟩ := H.out.oW.form (by omega)
      injection e with e4 e5 e6
      subst e4
      clear e2 e3 e5 e6
      obtain ⟨x, hx⟩ : ∃ x, d.ws[j] = x := ⟨_, rfl⟩
      have a0 : w.cell? ⟨gA, j, none⟩ = some (.int .i64 x.1) := by rw [H.out.oA.cellAt j (by omega), ats_at d.ws j hlt, hx]
      have w0 : w.cell? ⟨gW, j, none⟩ = some (.string (tx x.2)) := by rw [H.out.oW.cellAt j (by omega), txs_at d.ws j hlt, hx]
      have HU : Hid (uptoL k t (d.ws.take (j + 1)) = if x.1 = k then x.2 else uptoL k t (d.ws.take j)) := hid (by rw [List.take_succ_eq_append_getElem hlt, upto_snoc, hx])
      have hjI : (j : Int) < (d.ws.length : Int) := by omega
      clear hx
      by_cases hq : x.1 = k
      · have hqI : ((x.1 : Int) == (k : Int)) = true := by simp [hq]
        rw [if_pos hq] at HU
        clear hq
        go_wp2
        go_round
        case rel => exact ⟨j + 1, by omega, by go_num, by rw [HU.out]⟩
        case measure => simp [intOf]; omega
      · have hqI : ((x.1 : Int) == (k : Int)) = false := by simp; omega
        rw [if_neg hq] at HU
        clear hq
        go_wp2
        go_round
        case rel => exact ⟨j + 1, by omega, by go_num, by rw [HU.out]⟩
        case measure => simp [intOf]; omega
    · obtain rfl : j = d.ws.length := by omega
      go_wp2
      refine bodyPost_ret (v := .tuple #[.string (tx (uptoL k t (d.ws.take d.ws.length))), .int .i64 0]) (by simp [results, Tryd.results17, go_sem]) rfl ?_
      refine ⟨?_, rfl⟩
      rw [List.take_of_length_le (Nat.le_refl _), uptoL, St.read, List.getElem?_eq_getElem hk, Option.getD_some, HT.out]
set_option maxHeartbeats 800000 in
theorem rread_range (R : Nat) (vS vA vW : Value) (d : St) (k : Int) (w : World) (h : Ref w R vS vA vW d) (hk : k < 0 ∨ d.sure.length ≤ k) :
    Calls Tryd.prog 17 #[.pointer (some ⟨R, 0, none⟩), .int .i64 k] w fun e w' => e = .returned (.tuple #[.string ⟨#[]⟩, .int .i64 2]) ∧ w' = w := by
  obtain ⟨gS, cS, hvS, -, hgS⟩ := h.oS.form (by have := h.ok.lo; omega)
  subst hvS
  have c0 := h.c0
  rcases hk with hk | hk
  · go_enter Tryd.func17, Tryd.ntmps17
    go_wp2
    refine bodyPost_ret (v := .tuple #[.string ⟨#[]⟩, .int .i64 2]) (by simp [results, Tryd.results17, go_sem]) rfl ?_
    exact ⟨rfl, rfl⟩
  · have hk0 : decide (k < 0) = false := by simp; omega
    go_enter Tryd.func17, Tryd.ntmps17
    go_wp2
    refine bodyPost_ret (v := .tuple #[.string ⟨#[]⟩, .int .i64 2]) (by simp [results, Tryd.results17, go_sem]) rfl ?_
    exact ⟨rfl, rfl⟩
/-- bare of an error that is none, and of one. -/
def errV (n : Int) : Value := if n = 0 then .nilIface else .iface 24 (.int .i64 n)
theorem assertAt (n : Int) (w : World) : (Instr.typeAssert (.iface 24 (.int .i64 n)) 29 131 true).run Tryd.prog w = .ok (.tuple #[.pointer none, .bool false]) w := by kernel_rfl
theorem assertUn (n : Int) (w : World) : (Instr.typeAssert (.iface 24 (.int .i64 n)) 29 134 true).run Tryd.prog w = .ok (.tuple #[.nilIface, .bool false]) w := run_typeAssert_lacksB Tryd.underlying134 (by kernel_rfl) (by kernel_rfl) _ _ _
set_option maxRecDepth 100000 in
set_option maxHeartbeats 1600000 in
theorem tell_nil (w : World) : Calls Tryd.prog 33 #[.nilIface] w fun ev w' => ev = .returned (.int .i64 0) ∧ w' = w := by
  go_enter Tryd.func33, Tryd.ntmps33
  go_wp2
  go_ret
  exact ⟨rfl, rfl⟩
set_option maxRecDepth 100000 in
set_option maxHeartbeats 1600000 in
theorem place_nil (w : World) : Calls Tryd.prog 60 #[.nilIface] w fun ev w' => ev = .returned (.tuple #[.int .i64 0, .int .i64 (-1)]) ∧ Below w.heap.size w w' := by
  have HT := hid (tell_nil w)
  go_enter Tryd.func60, Tryd.ntmps60
  go_wp2_with (first | (go_at_call 33; refine HT.out.mono ?_; rintro e w2 ⟨rfl, rfl⟩))
  refine wp_loop_rounds 1 ?_
  rw [rounds_succ]
  go_wp2
  refine bodyPost_ret (v := .tuple #[.int .i64 0, .int .i64 (-1)]) (by simp [results, Tryd.results60, go_sem]) rfl ?_
  exact ⟨rfl, Below.refl _ _⟩
set_option maxRecDepth 100000 in
set_option maxHeartbeats 1600000 in
theorem place_err (n : Int) (w : World) (hg : w.cell? ⟨0, 0, none⟩ = some (.iface 140 (.agg #[.pointer (some ⟨4, 29, none⟩)]))) : Calls Tryd.prog 60 #[.iface 24 (.int .i64 n)] w fun ev w' => ev = .returned (.tuple #[.int .i64 n, .int .i64 (-1)]) ∧ Below w.heap.size w w' := by
  have HT := hid (tell_any n w hg)
  have q1 := assertAt n
  have q2 := assertUn n
  go_enter Tryd.func60, Tryd.ntmps60
  go_wp2_with (first | (go_at_call 33; refine HT.out.mono ?_; rintro e w2 ⟨rfl, b2⟩))
  refine wp_loop_rounds 1 ?_
  rw [rounds_succ]
  go_wp2
  refine bodyPost_ret (v := .tuple #[.int .i64 n, .int .i64 (-1)]) (by simp [results, Tryd.results60, go_sem]) rfl ?_
  exact ⟨rfl, b2⟩
theorem place_any (n : Int) (w : World) (hg : w.cell? ⟨0, 0, none⟩ = some (.iface 140 (.agg #[.pointer (some ⟨4, 29, none⟩)]))) : Calls Tryd.prog 60 #[errV n] w fun ev w' => ev = .returned (.tuple #[.int .i64 n, .int .i64 (-1)]) ∧ Below w.heap.size w w' := by
  by_cases h : n = 0
  · subst h
    exact place_nil w
  · rw [errV, if_neg h]
    exact place_err n w hg
set_option maxHeartbeats 800000 in
theorem Bare_any (n : Int) (w : World) : Calls Tryd.prog 36 #[.int .i64 n] w fun ev w' => ev = .returned (.agg #[.int .i64 n, .int .i64 (-1)]) ∧ Below w.heap.size w w' := by
  go_enter Tryd.func36, Tryd.ntmps36
  go_wp2
  refine bodyPost_ret (v := .agg #[.int .i64 n, .int .i64 (-1)]) (by simp [results, Tryd.results36, go_sem]) rfl ?_
  exact ⟨rfl, (Below.refl _ w).alloc (Nat.le_refl _) _⟩
set_option maxHeartbeats 800000 in
theorem is_any (n : Int) (w : World) (hg : w.cell? ⟨0, 0, none⟩ = some (.iface 140 (.agg #[.pointer (some ⟨4, 29, none⟩)]))) : Calls Tryd.prog 35 #[errV n, .agg #[.int .i64 n, .int .i64 (-1)]] w fun ev w' => ev = .returned (.bool true) ∧ Below w.heap.size w w' := by
  have hl0 : 0 < w.heap.size := World.block_lt_of_cell? w ⟨0, 0, none⟩ hg
  have HP := hid (place_any n (w.alloc (.cells #[.int .i64 n, .int .i64 (-1)] 74)) (by rw [World.cell?_alloc_lt _ _ ⟨0, 0, none⟩ hl0]; exact hg))
  have hbx := (Below.refl w.heap.size w).alloc (Nat.le_refl _) (.cells #[.int .i64 n, .int .i64 (-1)] 74)
  obtain ⟨e, he⟩ : ∃ e, errV n = e := ⟨_, rfl⟩
  rw [he] at HP ⊢
  clear he
  go_enter Tryd.func35, Tryd.ntmps35
  go_wp2_with (first | (go_at_call 60; refine HP.out.mono ?_; rintro e w2 ⟨rfl, b2⟩; have x0 := (b2.cell (p := ⟨w.heap.size, 0, none⟩) (by simp)).trans (show (w.alloc (.cells #[.int .i64 n, .int .i64 (-1)] 74)).cell? ⟨w.heap.size, 0, none⟩ = some (.int .i64 n) by simp); have x1 := (b2.cell (p := ⟨w.heap.size, 1, none⟩) (by simp)).trans (show (w.alloc (.cells #[.int .i64 n, .int .i64 (-1)] 74)).cell? ⟨w.heap.size, 1, none⟩ = some (.int .i64 (-1)) by simp)))
  go_ret
  exact ⟨rfl, hbx.trans (b2.mono (by simp))⟩
set_option maxHeartbeats 800000 in
theorem bare_any (n : Int) (w : World) (hg : w.cell? ⟨0, 0, none⟩ = some (.iface 140 (.agg #[.pointer (some ⟨4, 29, none⟩)]))) : Calls Tryd.prog 8 #[errV n, .int .i64 n] w fun ev w' => ev = .returned (.bool true) ∧ Below w.heap.size w w' := by
  have hl0 : 0 < w.heap.size := World.block_lt_of_cell? w ⟨0, 0, none⟩ hg
  have HB := hid (Bare_any n w)
  have HI := hid (fun (W : World) (hb : Below w.heap.size w W) => is_any n W ((hb.cell (p := ⟨0, 0, none⟩) hl0).trans hg))
  obtain ⟨e, he⟩ : ∃ e, errV n = e := ⟨_, rfl⟩
  rw [he] at HI ⊢
  clear he
  go_enter Tryd.func8, Tryd.ntmps8
  go_wp2_with (first | (go_at_call 36; refine HB.out.mono ?_; rintro e w1 ⟨rfl, b1⟩) | (go_at_call 35; refine (HI.out _ b1).mono ?_; rintro e w2 ⟨rfl, b2⟩))
  go_ret
  exact ⟨rfl, b1.trans (b2.mono b1.size)⟩
end Go.Proofs.YtgmngifnilmheaaDoor.Dk
