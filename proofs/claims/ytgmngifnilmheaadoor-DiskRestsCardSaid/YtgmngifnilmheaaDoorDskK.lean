import Derived.Test.YtgmngifnilmheaaDoorDskJ
import Derived.Test.YtgmngifnilmheaaDoorDskF
set_option linter.unusedSimpArgs false
set_option linter.unusedVariables false
namespace Go.Proofs.YtgmngifnilmheaaDoor.Dk
open Go.RowKit

theorem Sit.drew {W w : World} {D S : Nat} {vw : Value} {d : St} {C : Nat} (h : Sit W w D S vw d C) : Sit W w.drew D S vw d C :=
  ⟨h.disk.drew, h.cell.block rfl, h.keep.drew, h.new, h.cn, h.cl⟩
theorem Sit.done {W w : World} {D S : Nat} {vw : Value} {d : St} {C : Nat} (h : Sit W w D S vw d C) : Below W.heap.size W w := h.keep.below (by simp) (Nat.le_refl _)
theorem Sit.lst {W w : World} {D S : Nat} {vw v : Value} {d : St} {C : Nat} {xs : List Value} (h : Sit W w D S vw d C) (hl : Lst W v xs) : Lst w v xs := hl.keep h.keep (by simp)
theorem sit_new {W w : World} {D S n : Nat} (h : Mine W w D S (.slice none 0 0) (newD n)) : Sit W (w.alloc (.cells #[.pointer (some ⟨D, 0, none⟩)] 27)) D S (.slice none 0 0) (newD n) w.heap.size :=
  ⟨h.disk.alloc _, Blk.new w [.pointer (some ⟨D, 0, none⟩)] _ _ rfl, h.keep.alloc _, h.new, fun q => by have := h.disk.blocks_lt _ q; omega, h.keep.size⟩
theorem Sit.fused {W w w' : World} {D S : Nat} {vw : Value} {d d' : St} {C : Nat} (h : Sit W w D S vw d C) (ha : At w' D S vw d') (hk : Keep [D] w w') : Sit W w' D S vw d' C :=
  h.step ha (hk.sub (fun x hx => Or.inl (by simp at hx; simp [hx, blocks]))) (Or.inl rfl)
theorem Was.fused {w w' : World} {v : Value} {l : List ByteArray} {D S : Nat} {vw : Value} (h : Was w v l D S vw) (hk : Keep [D] w w') : Was w' v l D S vw :=
  h.step (hk.sub (fun x hx => Or.inl (by simp at hx; simp [hx, blocks]))) (Or.inl rfl)
theorem settle_read : ∀ (ws : List (Nat × Bs)) (i : Nat) (s : List Bs) (k : Nat), k < s.length → ((settleL allK i s ws)[k]?).getD [] = (lastL k ws).getD (s[k]?.getD [])
  | [], i, s, k, h => rfl
  | x :: r, i, s, k, h => by
    rw [settleL, settle_read r (i + 1) _ k (by split <;> simpa using h), lastL]
    cases lastL k r with
    | some z => rfl
    | none =>
      simp only [allK, if_true, Option.none_or, Option.getD_none, List.getElem?_set]
      by_cases hx : x.1 = k
      · simp [hx, h]
      · simp [hx]
theorem reads_settled (d : St) (n : Nat) (h : n ≤ d.sure.length) : readsL (d.settled allK) n = readsL d n := by
  unfold readsL
  refine List.map_congr_left (fun k hk => ?_)
  have hk' := List.mem_range.1 hk
  congr 1
  rw [St.read, St.read]
  exact settle_read d.ws 0 d.sure k (by omega)
theorem reads_same {d e : St} (hs : d.sure = e.sure) (hw : d.ws = e.ws) (n : Nat) : readsL d n = readsL e n := by
  unfold readsL St.read
  rw [hs, hw]
theorem Was.form {w : World} {v : Value} {l : List ByteArray} {D S : Nat} {vw : Value} (h : Was w v l D S vw) : ∃ a c, v = .slice a l.length c := by
  obtain ⟨a, c, e, -⟩ := h.lst
  rw [st_len] at e
  exact ⟨a, c, e⟩
theorem arith1 {k m j n : Nat} (hjj : k % m = j) (g2 : ¬ m = 0) (g3 : ¬ 20 < m) (hlt : k < n) : ((k : Int).tmod (m : Int) = (j : Int)) ∧ (wrap64 ((k : Int).tmod (m : Int)) = (j : Int)) ∧ wrap64 (j : Int) = (j : Int) ∧ ((j : Int) < (m : Int)) ∧ ((k : Int) < (n : Int)) := by
  have hj : j < m := by rw [← hjj]; exact Nat.mod_lt _ (by omega)
  have e : (k : Int).tmod (m : Int) = (j : Int) := by rw [rem_small, hjj]
  exact ⟨e, by rw [e, wrap_small j (by omega)], wrap_small j (by omega), by omega, by omega⟩
set_option maxRecDepth 100000 in
set_option maxHeartbeats 4000000 in
theorem rests_any (v0 v1 v2 : Value) (l : List ByteArray) (ats : List Int) (ks : List Bool) (W : World) (h0 : Lst W v0 (st l)) (h1 : Lst W v1 (it ats)) (h2 : Lst W v2 (bl ks)) (hls : ∀ x ∈ l, x.size ≤ maxLen) (hai : ∀ x ∈ ats, -9223372036854775808 ≤ x ∧ x ≤ 9223372036854775807)
    (hg : W.cell? ⟨0, 0, none⟩ = some (.iface 140 (.agg #[.pointer (some ⟨4, 29, none⟩)]))) :
    Calls Tryd.prog 5 #[v0, v1, v2] W fun e w' => e = .returned (.bool true) ∧ Below W.heap.size W w' := by
  have L0 := hid h0
  have L1 := hid h1
  have L2 := hid h2
  obtain ⟨a0, c0, rfl, -⟩ := h0
  obtain ⟨a1, c1, rfl, -⟩ := h1
  obtain ⟨a2, c2, rfl, -⟩ := h2
  have hb2 : (bl ks).length = ks.length := by simp [bl]
  rw [st_len] at L0 ⊢
  rw [it_len] at L1 ⊢
  rw [hb2] at L2 ⊢
  obtain ⟨n, hn⟩ : ∃ n, l.length = n := ⟨_, rfl⟩
  obtain ⟨m, hm⟩ : ∃ m, ats.length = m := ⟨_, rfl⟩
  obtain ⟨q, hq⟩ : ∃ q, ks.length = q := ⟨_, rfl⟩
  have HN := hid hn
  have HM := hid hm
  have HQ := hid hq
  rw [hn] at L0 ⊢
  rw [hm] at L1 ⊢
  rw [hq] at L2 ⊢
  have HG := hid hg
  clear hn hm hq hb2 hg
  by_cases g1 : 20 < n
  · have g1I : (20 : Int) < (n : Int) := by omega
    go_enter Tryd.func5, Tryd.ntmps5
    go_wp2
    go_ret
    exact ⟨rfl, Below.refl _ _⟩
  by_cases g2 : m = 0
  · subst g2
    go_enter Tryd.func5, Tryd.ntmps5
    go_wp2
    go_ret
    exact ⟨rfl, Below.refl _ _⟩
  by_cases g3 : 20 < m
  · have g3I : (20 : Int) < (m : Int) := by omega
    go_enter Tryd.func5, Tryd.ntmps5
    go_wp2
    go_ret
    exact ⟨rfl, Below.refl _ _⟩
  by_cases g4 : 30 < q
  · have g4I : (30 : Int) < (q : Int) := by omega
    go_enter Tryd.func5, Tryd.ntmps5
    go_wp2
    go_ret
    exact ⟨rfl, Below.refl _ _⟩
  have q1 : decide ((20 : Int) < (n : Int)) = false := by simp; omega
  have q2 : ((m : Int) == 0) = false := by simp; omega
  have q3 : decide ((20 : Int) < (m : Int)) = false := by simp; omega
  have q4 : decide ((30 : Int) < (q : Int)) = false := by simp; omega
  have HC := hid (has_rests _ l W L0.out (by have := HN.out; omega) hls)
  cases ha : l.any longS with
  | true =>
    rw [ha] at HC
    go_enter Tryd.func5, Tryd.ntmps5
    go_wp2_with (first | (go_at_call 21; refine HC.out.mono ?_; rintro e w1 ⟨rfl, b1⟩))
    go_ret
    exact ⟨rfl, b1⟩
  | false =>
    rw [ha] at HC
    have HSM : Hid (∀ x ∈ l, x.size ≤ 64) := hid (fun x hx => by
      have := List.any_eq_false.1 ha x hx
      simpa [longS] using this)
    clear ha
    have HLO := hid lost_any
    have HNW := hid (fun w => new_any 16 w (by omega) (by omega))
    go_enter Tryd.func5, Tryd.ntmps5
    go_wp2_with (first | (go_at_call 21; refine HC.out.mono ?_; rintro e w1 ⟨rfl, b1⟩) | (go_at_call 22; refine (HLO.out _).mono ?_; rintro e w2 ⟨rfl, b2⟩) | (go_at_call 7; refine (HNW.out _).mono ?_; rintro e w3 ⟨D, S, rfl, a3, b3, hD, hS⟩))
    have S3 := hid (sit_new (mine_new (W := w2) a3 b3 hD hS))
    have HB2 := hid (b1.trans (b2.mono b1.size))
    have S4 : Hid (Sit W (w3.alloc (.cells #[.pointer (some ⟨D, 0, none⟩)] 27)) D S (.slice none 0 0) (newD 16) w3.heap.size) := hid (by
      have q5 := HB2.out.size
      have q6 := b3.size
      refine ⟨S3.out.disk, S3.out.cell, (Keep.of (X := []) HB2.out).then S3.out.keep (by simp), fun k hk => ?_, S3.out.cn, by omega⟩
      have := S3.out.new k hk
      omega)
    obtain ⟨w4, hw4⟩ : ∃ w4, w3.alloc (.cells #[.pointer (some ⟨D, 0, none⟩)] 27) = w4 := ⟨_, rfl⟩
    obtain ⟨C, hC⟩ : ∃ C, w3.heap.size = C := ⟨_, rfl⟩
    rw [hw4, hC] at S4
    rw [hw4, hC]
    clear hw4 hC S3 a3 b3 hD hS b1 b2 HB2 HC HLO HNW
    have HV2 : Hid (ks = [] ∨ (Value.slice a2 q c2).ownBlock ≠ some S) := hid (by
      obtain ⟨a, c, e, hx⟩ := L2.out
      rcases hx with hx | ⟨b, o, rfl, hb, -⟩
      · left
        simpa [bl] using hx
      · right
        injection e with e1 e2 e3
        subst e1
        have := S4.out.new S (by simp [blocks])
        simp [Value.ownBlock]
        omega)
    have GG : Hid (∀ w' : World, Keep [] W w' → w'.cell? ⟨0, 0, none⟩ = some (.iface 140 (.agg #[.pointer (some ⟨4, 29, none⟩)]))) := hid (fun w' hk => (World.cell?_of_block (w := W) (a := ⟨0, 0, none⟩) (hk.block 0 (World.block_lt_of_cell? W ⟨0, 0, none⟩ HG.out) (by simp))).trans HG.out)
    have hnI : (n : Int) ≤ 20 := by omega
    have hmI : (m : Int) ≤ 20 := by omega
    have hm0 : (0 : Int) < (m : Int) := by omega
    go_loopw [9] (fun i wr => ∃ (k : Nat) (vw : Value) (d : St), k ≤ n ∧ i = .int .i64 k ∧ Sit W wr D S vw d C ∧ d.sure.length = 16 ∧ d.fuse = -1 ∧ d.ws.length = k) (fun i wr => n - (intOf i).toNat)
    case atStart => exact ⟨0, _, _, Nat.zero_le _, rfl, S4.out, by simp [newD], rfl, rfl⟩
    case round =>
      obtain ⟨k, vw, d, hk, rfl, hs, hd1, hd2, hd3⟩ := hrel
      have SR := hid hs
      have D1 := hid hd1
      have D2 := hid hd2
      have D3 := hid hd3
      clear hs hd1 hd2 hd3
      by_cases hlt : k < n
      · have hk2 : k < l.length := by have := HN.out; omega
        obtain ⟨-, b0, o0, ha0, hb0, hr0⟩ := L0.out.at (by omega)
        obtain ⟨-, b1, o1, ha1, hb1, hr1⟩ := L1.out.at (by omega)
        subst ha0
        subst ha1
        obtain ⟨s, hs⟩ : ∃ s, l[k] = s := ⟨_, rfl⟩
        have hs64 := HSM.out s (by rw [← hs]; exact List.getElem_mem hk2)
        have hj : k % m < ats.length := by rw [HM.out]; exact Nat.mod_lt _ (by omega)
        obtain ⟨j, hjj⟩ : ∃ j, k % m = j := ⟨_, rfl⟩
        rw [hjj] at hj
        obtain ⟨x, hx⟩ : ∃ x, ats[j] = x := ⟨_, rfl⟩
        have hxI := hai x (by rw [← hx]; exact List.getElem_mem hj)
        have HFC : Hid (∀ w' : World, Keep [] W w' → w'.cell? ⟨b1, o1 + j, none⟩ = some (.int .i64 x) ∧ w'.cell? ⟨b0, o0 + k, none⟩ = some (.string s)) := hid (fun w' hk' => by
          refine ⟨(World.cell?_of_block (w := W) (a := ⟨b1, o1 + j, none⟩) (hk'.block b1 hb1 (by simp))).trans ?_, (World.cell?_of_block (w := W) (a := ⟨b0, o0 + k, none⟩) (hk'.block b0 hb0 (by simp))).trans ?_⟩
          · exact hr1 _ _ (by rw [it_at ats _ hj, hx])
          · exact hr0 _ _ (by rw [st_at l k hk2, hs]))
        clear hr0 hr1 hs hx
        obtain ⟨hrem, hremw, hjw, hjI, hkI⟩ := arith1 hjj g2 g3 hlt
        clear hjj
        have f0 := SR.out.cell.cell 0 rfl
        obtain ⟨f1, f2⟩ := HFC.out wr SR.out.keep
        have HP := hid pick_any
        have HWR := hid (fun (kk : Nat) (hkk : kk < 16) => wfree D S vw d kk s wr.drew SR.out.drew.disk (by rw [D1.out]; exact hkk) hs64 D2.out (by rw [D3.out]; omega))
        go_wp2
        go_region_held3 (fun w' => w'.cell? ⟨C, 0, none⟩ = some (.pointer (some ⟨D, 0, none⟩)) ∧ w'.cell? ⟨b1, o1 + j, none⟩ = some (.int .i64 x) ∧ w'.cell? ⟨b0, o0 + k, none⟩ = some (.string s)) (first | exact ⟨f0, f1, f2⟩ | exact G5.out) (first | (go_at_call 26; refine (HP.out _ _).mono ?_; rintro e wp ⟨kk, rfl, hkk, -, rfl⟩) | (go_at_call 9; refine (HWR.out kk hkk).mono ?_; rintro e w5 ⟨vw5, rfl, a5, k5, v5⟩; have S5 := hid (SR.out.drew.step a5 k5 v5); have G5 : Hid (w5.cell? ⟨C, 0, none⟩ = some (.pointer (some ⟨D, 0, none⟩)) ∧ w5.cell? ⟨b1, o1 + j, none⟩ = some (.int .i64 x) ∧ w5.cell? ⟨b0, o0 + k, none⟩ = some (.string s)) := hid ⟨S5.out.cell.cell 0 rfl, HFC.out w5 S5.out.keep⟩))
        go_wp2
        go_roundw
        case rel => exact ⟨k + 1, _, _, by omega, by go_num, S5.out, D1.out, D2.out, by simp [St.wrote, D3.out]⟩
        case measure => simp [intOf]; omega
      · obtain rfl : k = n := by omega
        have c0 := SR.out.cell.cell 0 rfl
        go_wp2_with (first | (go_at_call 31; fail) | (go_at_call 11; fail) | (go_at_call 15; fail) | (go_at_call 32; fail) | (go_at_call 13; fail) | (go_at_call 9; fail) | (go_at_call 33; fail))
        refine (all_any W wr D S vw d C SR.out D1.out).mono ?_
        rintro e w5 ⟨v5, rfl, was5, b5⟩
        have S5 := hid (SR.out.below b5)
        have W5 := hid was5
        obtain ⟨va, vc, hv⟩ := was5.form
        rw [readsL_len] at hv
        subst hv
        have c5 := S5.out.cell.cell 0 rfl
        clear was5 b5 c0
        go_wp2_with (first | (go_at_call 31; fail) | (go_at_call 11; fail) | (go_at_call 15; fail) | (go_at_call 32; fail) | (go_at_call 13; fail) | (go_at_call 9; fail) | (go_at_call 33; fail))
        refine (sfree D S vw d w5 S5.out.disk D2.out).mono ?_
        rintro e w6 ⟨rfl, a6, k6⟩
        have S6 := hid (S5.out.settle a6 k6)
        have W6 := hid (W5.out.settle k6)
        obtain ⟨d6, hd6⟩ : ∃ d6, d.settled allK = d6 := ⟨_, rfl⟩
        have R6 : Hid (readsL d6 16 = readsL d 16) := hid (by rw [← hd6]; exact reads_settled d 16 (by rw [D1.out]; exact Nat.le_refl _))
        have E6 : Hid (d6.ws = [] ∧ d6.sure.length = 16 ∧ d6.fuse = -1) := hid (by rw [← hd6]; exact ⟨rfl, by rw [St.settled, settle_len, D1.out], D2.out⟩)
        rw [hd6] at S6
        clear hd6 a6 k6 c5
        go_wp2_with (first | (go_at_call 31; fail) | (go_at_call 11; fail) | (go_at_call 15; fail) | (go_at_call 32; fail) | (go_at_call 13; fail) | (go_at_call 9; fail) | (go_at_call 33; fail))
        refine (all_any W w6 D S _ d6 C S6.out E6.out.2.1).mono ?_
        rintro e w7 ⟨v7, rfl, was7, b7⟩
        have S7 := hid (S6.out.below b7)
        have W7 := hid (W6.out.below b7)
        rw [R6.out] at was7
        have Q7 := hid was7
        clear was7 b7
        go_wp2_with (first | (go_at_call 31; fail) | (go_at_call 11; fail) | (go_at_call 15; fail) | (go_at_call 32; fail) | (go_at_call 13; fail) | (go_at_call 9; fail) | (go_at_call 33; fail))
        refine (equal_any _ _ (readsL d 16) w7 Q7.out.lst W7.out.lst (by rw [readsL_len]; omega)).mono ?_
        rintro e w8 ⟨rfl, b8⟩
        have S8 := hid (S7.out.below b8)
        have W8 := hid (W7.out.below b8)
        have c8 := S8.out.cell.cell 0 rfl
        clear b8 Q7
        go_wp2_with (first | (go_at_call 31; fail) | (go_at_call 11; fail) | (go_at_call 15; fail) | (go_at_call 32; fail) | (go_at_call 13; fail) | (go_at_call 9; fail) | (go_at_call 33; fail))
        refine (crash_any D S _ _ d6 ks w8 S8.out.disk (S8.out.lst L2.out) (by rw [HQ.out]; omega) HV2.out).mono ?_
        rintro e w9 ⟨rfl, a9, k9⟩
        have S9 := hid (S8.out.settle a9 k9)
        have W9 := hid (W8.out.settle k9)
        have c9 := S9.out.cell.cell 0 rfl
        obtain ⟨d9, hd9⟩ : ∃ d9, (⟨(d6.settled (keptL ks)).sure, [], -1⟩ : St) = d9 := ⟨_, rfl⟩
        have E9 : Hid (d9.ws = [] ∧ d9.sure = d6.sure ∧ d9.fuse = -1) := hid (by rw [← hd9]; exact ⟨rfl, by rw [St.settled, E6.out.1]; rfl, rfl⟩)
        rw [hd9] at S9
        clear hd9 a9 k9 c8
        go_wp2_with (first | (go_at_call 31; fail) | (go_at_call 11; fail) | (go_at_call 15; fail) | (go_at_call 32; fail) | (go_at_call 13; fail) | (go_at_call 9; fail) | (go_at_call 33; fail))
        refine (crash_any D S _ (.slice none 0 0) d9 [] w9 S9.out.disk ⟨none, 0, rfl, Or.inl rfl⟩ (by simp) (Or.inl rfl)).mono ?_
        rintro e w10 ⟨rfl, a10, k10⟩
        have S10 := hid (S9.out.settle a10 k10)
        have W10 := hid (W9.out.settle k10)
        have c10 := S10.out.cell.cell 0 rfl
        obtain ⟨d10, hd10⟩ : ∃ d10, (⟨(d9.settled (keptL [])).sure, [], -1⟩ : St) = d10 := ⟨_, rfl⟩
        have E10 : Hid (d10.ws = [] ∧ d10.sure = d6.sure ∧ d10.fuse = -1) := hid (by rw [← hd10]; exact ⟨rfl, by rw [St.settled, E9.out.1]; exact E9.out.2.1, rfl⟩)
        rw [hd10] at S10
        have R10 : Hid (readsL d10 16 = readsL d 16) := hid (by rw [reads_same (e := d6) E10.out.2.1 (by rw [E10.out.1, E6.out.1]) 16]; exact R6.out)
        have N10 : Hid (d10.sure.length = 16) := hid (by rw [E10.out.2.1]; exact E6.out.2.1)
        clear hd10 a10 k10 c9
        go_wp2_with (first | (go_at_call 31; fail) | (go_at_call 11; fail) | (go_at_call 15; fail) | (go_at_call 32; fail) | (go_at_call 13; fail) | (go_at_call 9; fail) | (go_at_call 33; fail))
        refine (all_any W w10 D S _ d10 C S10.out N10.out).mono ?_
        rintro e w11 ⟨v11, rfl, was11, b11⟩
        have S11 := hid (S10.out.below b11)
        have W11 := hid (W10.out.below b11)
        rw [R10.out] at was11
        have Q11 := hid was11
        clear was11 b11
        go_wp2_with (first | (go_at_call 31; fail) | (go_at_call 11; fail) | (go_at_call 15; fail) | (go_at_call 32; fail) | (go_at_call 13; fail) | (go_at_call 9; fail) | (go_at_call 33; fail))
        refine (equal_any _ _ (readsL d 16) w11 Q11.out.lst W11.out.lst (by rw [readsL_len]; omega)).mono ?_
        rintro e w12 ⟨rfl, b12⟩
        have S12 := hid (S11.out.below b12)
        have W12 := hid (W11.out.below b12)
        have c12 := S12.out.cell.cell 0 rfl
        clear b12 Q11
        go_wp2_with (first | (go_at_call 31; fail) | (go_at_call 11; fail) | (go_at_call 15; fail) | (go_at_call 32; fail) | (go_at_call 13; fail) | (go_at_call 9; fail) | (go_at_call 33; fail))
        refine (fuse_any D S _ d10 0 w12 S12.out.disk (by omega) (by omega)).mono ?_
        rintro e w13 ⟨rfl, a13, k13, -⟩
        have S13 := hid (S12.out.fused a13 k13)
        have W13 := hid (W12.out.fused k13)
        have c13 := S13.out.cell.cell 0 rfl
        obtain ⟨d13, hd13⟩ : ∃ d13, (⟨d10.sure, d10.ws, 0⟩ : St) = d13 := ⟨_, rfl⟩
        have E13 : Hid (d13.ws = d10.ws ∧ d13.sure = d10.sure ∧ d13.fuse = 0) := hid (by rw [← hd13]; exact ⟨rfl, rfl, rfl⟩)
        have LV : Hid (d13.live = false ∧ d13.burnt = d13) := hid ⟨by simp [St.live, E13.out.2.2], burnt_not (by rw [E13.out.2.2]; omega)⟩
        rw [hd13] at S13
        have N13 : Hid (d13.sure.length = 16) := hid (by rw [E13.out.2.1]; exact N10.out)
        have R13 : Hid (readsL d13 16 = readsL d 16) := hid (by rw [reads_same (e := d10) E13.out.2.1 E13.out.1 16]; exact R10.out)
        clear hd13 a13 k13 c12
        go_wp2_with (first | (go_at_call 31; fail) | (go_at_call 11; fail) | (go_at_call 15; fail) | (go_at_call 32; fail) | (go_at_call 13; fail) | (go_at_call 9; fail) | (go_at_call 33; fail))
        refine (write_dead D S _ d13 3 ⟨#[120]⟩ w13 S13.out.disk (by rw [N13.out]; omega) (by decide) LV.out.1).mono ?_
        rw [LV.out.2]
        rintro e w14 ⟨rfl, a14, k14⟩
        have S14 := hid (S13.out.fused a14 k14)
        have W14 := hid (W13.out.fused k14)
        clear a14 k14 c13
        go_wp2_with (first | (go_at_call 31; fail) | (go_at_call 11; fail) | (go_at_call 15; fail) | (go_at_call 32; fail) | (go_at_call 13; fail) | (go_at_call 9; fail) | (go_at_call 33; fail))
        refine (tell_any 14 w14 (GG.out _ S14.out.keep)).mono ?_
        rintro e w15 ⟨rfl, b15⟩
        have S15 := hid (S14.out.below b15)
        have W15 := hid (W14.out.below b15)
        have c15 := S15.out.cell.cell 0 rfl
        clear b15
        go_wp2_with (first | (go_at_call 31; fail) | (go_at_call 11; fail) | (go_at_call 15; fail) | (go_at_call 32; fail) | (go_at_call 13; fail) | (go_at_call 9; fail) | (go_at_call 33; fail))
        refine (sync_dead D S _ d13 w15 S15.out.disk LV.out.1).mono ?_
        rw [LV.out.2]
        rintro e w16 ⟨rfl, a16, k16⟩
        have S16 := hid (S15.out.step a16 (k16.sub (fun x hx => Or.inl (by simp at hx; rcases hx with rfl | rfl <;> simp [blocks]))) (Or.inl rfl))
        have W16 := hid (W15.out.step (vw' := .slice none 0 0) (k16.sub (fun x hx => Or.inl (by simp at hx; rcases hx with rfl | rfl <;> simp [blocks]))) (Or.inl rfl))
        clear a16 k16 c15
        go_wp2_with (first | (go_at_call 31; fail) | (go_at_call 11; fail) | (go_at_call 15; fail) | (go_at_call 32; fail) | (go_at_call 13; fail) | (go_at_call 9; fail) | (go_at_call 33; fail))
        refine (tell_any 14 w16 (GG.out _ S16.out.keep)).mono ?_
        rintro e w17 ⟨rfl, b17⟩
        have S17 := hid (S16.out.below b17)
        have W17 := hid (W16.out.below b17)
        have c17 := S17.out.cell.cell 0 rfl
        clear b17
        clear c17
        go_wp2_with (first | (go_at_call 31; fail) | (go_at_call 11; fail) | (go_at_call 15; fail) | (go_at_call 32; fail) | (go_at_call 13; fail) | (go_at_call 9; fail) | (go_at_call 33; fail))
        refine (all_any W w17 D S _ d13 C S17.out N13.out).mono ?_
        rintro e w18 ⟨v18, rfl, was18, b18⟩
        have S18 := hid (S17.out.below b18)
        have W18 := hid (W17.out.below b18)
        rw [R13.out] at was18
        have Q18 := hid was18
        clear was18 b18
        go_wp2_with (first | (go_at_call 31; fail) | (go_at_call 11; fail) | (go_at_call 15; fail) | (go_at_call 32; fail) | (go_at_call 13; fail) | (go_at_call 9; fail) | (go_at_call 33; fail))
        refine (equal_any _ _ (readsL d 16) w18 Q18.out.lst W18.out.lst (by rw [readsL_len]; omega)).mono ?_
        rintro e w19 ⟨rfl, b19⟩
        have S19 := hid (S18.out.below b19)
        have W19 := hid (W18.out.below b19)
        have c19 := S19.out.cell.cell 0 rfl
        clear b19 Q18
        go_wp2_with (first | (go_at_call 31; fail) | (go_at_call 11; fail) | (go_at_call 15; fail) | (go_at_call 32; fail) | (go_at_call 13; fail) | (go_at_call 9; fail) | (go_at_call 33; fail))
        refine (fuse_any D S _ d13 1 w19 S19.out.disk (by omega) (by omega)).mono ?_
        rintro e w20 ⟨rfl, a20, k20, -⟩
        have S20 := hid (S19.out.fused a20 k20)
        have W20 := hid (W19.out.fused k20)
        have c20 := S20.out.cell.cell 0 rfl
        clear a20 k20 c19
        go_wp2_with (first | (go_at_call 31; fail) | (go_at_call 11; fail) | (go_at_call 15; fail) | (go_at_call 32; fail) | (go_at_call 13; fail) | (go_at_call 9; fail) | (go_at_call 33; fail))
        refine (write_any D S _ _ 3 ⟨#[120]⟩ w20 S20.out.disk (by show 3 < d13.sure.length; rw [N13.out]; omega) (by decide) (by rfl) (by show d13.ws.length < 1000000; rw [E13.out.1, E10.out.1]; simp)).mono ?_
        rintro e w21 ⟨vw21, rfl, a21, k21, v21⟩
        have S21 := hid (S20.out.step a21 k21 v21)
        have W21 := hid (W20.out.step k21 v21)
        have c21 := S21.out.cell.cell 0 rfl
        clear a21 k21 v21 c20
        go_wp2_with (first | (go_at_call 31; fail) | (go_at_call 11; fail) | (go_at_call 15; fail) | (go_at_call 32; fail) | (go_at_call 13; fail) | (go_at_call 9; fail) | (go_at_call 33; fail))
        refine (sync_dead D S _ _ w21 S21.out.disk (by rfl)).mono ?_
        rintro e w22 ⟨rfl, a22, k22⟩
        have S22 := hid (S21.out.step a22 (k22.sub (fun x hx => Or.inl (by simp at hx; rcases hx with rfl | rfl <;> simp [blocks]))) (Or.inl rfl))
        have W22 := hid (W21.out.step (vw' := vw21) (k22.sub (fun x hx => Or.inl (by simp at hx; rcases hx with rfl | rfl <;> simp [blocks]))) (Or.inl rfl))
        clear a22 k22 c21
        go_wp2_with (first | (go_at_call 31; fail) | (go_at_call 11; fail) | (go_at_call 15; fail) | (go_at_call 32; fail) | (go_at_call 13; fail) | (go_at_call 9; fail) | (go_at_call 33; fail))
        refine (tell_any 14 w22 (GG.out _ S22.out.keep)).mono ?_
        rintro e w23 ⟨rfl, b23⟩
        have S23 := hid (S22.out.below b23)
        have W23 := hid (W22.out.below b23)
        have c23 := S23.out.cell.cell 0 rfl
        clear b23
        go_wp2
        go_ret
        exact ⟨rfl, S23.out.done⟩
end Go.Proofs.YtgmngifnilmheaaDoor.Dk
