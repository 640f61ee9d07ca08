import Derived.Test.YtemcpjflpggaeaaDoorStoS
set_option linter.unusedSimpArgs false
set_option linter.unusedVariables false
namespace Go.Proofs.YtemcpjflpggaeaaDoor.Dk
open Go.RowKit Go.Maps

theorem once_room {e i n k : Nat} (he : e ≤ 2 + 6 * i) (hi : i < 2 * n) (hn : ¬ 15 < n) (hk : k ≤ 6) : e + k ≤ 600 ∧ e + k ≤ 2 + 6 * (i + 1) := by omega
theorem once_arith {i n j : Nat} (hj : i % n = j) (hi : i < 2 * n) (hn : ¬ 15 < n) : (i : Int).tmod (n : Int) = (j : Int) ∧ wrap64 ((i : Int).tmod (n : Int)) = (j : Int) ∧ wrap64 (j : Int) = (j : Int) ∧ ((j : Int) < (n : Int)) ∧ j < n ∧ ¬ n = 0 ∧ (i : Int) < 2 * (n : Int) ∧ ¬ (n : Int) = 0 := by
  have hn0 : ¬ n = 0 := by omega
  have hl : j < n := by rw [← hj]; exact Nat.mod_lt _ (by omega)
  have hw : wrap64 (j : Int) = (j : Int) := wrap_small j (by omega)
  exact ⟨by rw [rem_small, hj], by rw [rem_small, hj, hw], hw, by omega, hl, hn0, by omega, by omega⟩
theorem once_few {t i n : Nat} (h : t ≤ i) (hi : i < 2 * n) (hn : ¬ 15 < n) : t ≤ 500 := by omega
theorem once_rel {e t i : Nat} (he : e ≤ 2 + 6 * i) (ht : t ≤ i) : e ≤ 2 + 6 * (i + 1) ∧ t ≤ i + 1 ∧ t + 1 ≤ i + 1 := by omega
theorem once_meas {i n : Nat} (h : i < 2 * n) : 2 * n - (i + 1) < 2 * n - i := by omega
set_option maxRecDepth 100000 in
set_option maxHeartbeats 8000000 in
theorem once_any (v0 : Value) (s : ByteArray) (l : List ByteArray) (W : World) (h0 : Lst W v0 (st l)) (hls : ∀ x ∈ l, x.size ≤ maxLen) (hsm : s.size ≤ maxLen) (hE : EnvK W)
    (hg : W.cell? ⟨0, 0, none⟩ = some (.iface 139 (.agg #[.pointer (some ⟨5, 30, none⟩)]))) :
    Calls Tryd.prog 4 #[v0, .string s] W fun e w' => e = .returned (.bool true) ∧ Below W.heap.size W w' := by
  have L0 := hid h0
  obtain ⟨a0, c0, rfl, -⟩ := h0
  rw [st_len] at L0 ⊢
  obtain ⟨n, hn⟩ : ∃ n, l.length = n := ⟨_, rfl⟩
  have HN := hid hn
  rw [hn] at L0 ⊢
  have HG := hid hg
  have HE := hid hE
  clear hn hg
  unfold maxLen at hsm
  obtain ⟨W1, hW1⟩ : ∃ W1, W.alloc (.cells #[.string s] 9) = W1 := ⟨_, rfl⟩
  have hB1 : Below W.heap.size W W1 := by rw [← hW1]; exact (Below.refl _ W).alloc (Nat.le_refl _) _
  have C1 : Blk W1 W.heap.size [.string s] := by rw [← hW1]; exact Blk.new W _ _ _ rfl
  have HB1 := hid hB1
  have HC1 := hid C1
  have cs := C1.cell 0 (v := .string s) rfl
  by_cases g1 : 15 < n
  · have g1I : (15 : Int) < (n : Int) := by omega
    clear hB1 C1
    go_enter Tryd.func4, Tryd.ntmps4
    go_wp2
    go_ret
    exact ⟨rfl, HB1.out⟩
  by_cases g4 : 300 < s.size
  · have g4I : (300 : Int) < (s.size : Int) := by omega
    have q1 : decide ((15 : Int) < (n : Int)) = false := by simp; omega
    clear hB1 C1
    go_enter Tryd.func4, Tryd.ntmps4
    go_wp2
    go_ret
    exact ⟨rfl, HB1.out⟩
  have q1 : decide ((15 : Int) < (n : Int)) = false := by simp; omega
  have q4 : decide ((300 : Int) < (s.size : Int)) = false := by simp; omega
  clear hsm
  have HH := hid (has_once _ l W1 (L0.out.below hB1) (by rw [HN.out]; omega) hls)
  clear hB1 C1
  cases hany : l.any long3 with
  | true =>
    rw [hany] at HH
    go_enter Tryd.func4, Tryd.ntmps4
    go_wp2_with (first | (go_at_call 7; refine HH.out.mono ?_; rintro e w1 ⟨rfl, hb1⟩))
    go_ret
    exact ⟨rfl, HB1.out.trans (hb1.mono HB1.out.size)⟩
  | false =>
    rw [hany] at HH
    have HS : Hid (∀ x ∈ l, x.size ≤ 300) := hid (fun x hx => by
      have := List.any_eq_false.1 hany x hx
      simpa [long3] using this)
    clear hany
    go_enter Tryd.func4, Tryd.ntmps4
    go_wp2_with (first | (go_at_call 7; refine HH.out.mono ?_; rintro e w1 ⟨rfl, hb1⟩; have HB2 := hid (HB1.out.trans (hb1.mono HB1.out.size)); have HC2 := hid (HC1.out.below hb1); have HST := hid (stored_any w1 (HE.out.below HB2.out)); clear hb1) | (go_at_call 22; refine HST.out.mono ?_; rintro e w2 ⟨rfl, hb2⟩; have HB3 := hid (HB2.out.trans (hb2.mono HB2.out.size)); have HC3 := hid (HC2.out.below hb2); have HNW := hid (new_any 600 w2 (by omega) (by omega)); clear hb2) | (go_at_call 9; refine HNW.out.mono ?_; rintro e w3 ⟨D, S, rfl, a3, b3, hD, hS⟩; have M3 := hid (show Mine w2 w3 D S _ (newD 600) from mine_new a3 b3 hD hS); clear a3 b3 hD hS) | (go_at_call 23; fail))
    have hl6 : (newD 600).sure.length = 600 := by simp [newD]
    have HE2 := hid (HE.out.below HB3.out)
    have L2 := hid (L0.out.below HB3.out)
    have HO := hid (M3.out.open HE2.out (inv_new 600 (by omega)) rfl (by rw [hl6]; decide))
    refine HO.out.mono ?_
    rintro e4 w4 ⟨X, M, n4, B, kv, rfl, l4, -, -⟩
    have LV4 := hid l4
    clear l4 HO HNW HST HH
    go_wp2
    go_loopw [8] (fun pi wr => ∃ (i n' : Nat) (vw kv : Value) (d : St) (ts : List Bs) (e : Nat), pi = .int .i64 (i : Int) ∧ i ≤ 2 * n ∧ Live w2 wr D S X M n' B vw kv d ts e ∧ d.fuse = -1 ∧ d.sure.length = 600 ∧ e ≤ 2 + 6 * i ∧ ts.length ≤ i ∧ Has l i n ts) (fun pi wr => 2 * n - (intOf pi).toNat)
    case atStart => exact ⟨0, n4, _, _, _, [], 2, rfl, Nat.zero_le _, LV4.out, rfl, hl6, Nat.le_refl _, Nat.le_refl _, ⟨by simp, fun j hj => absurd hj (Nat.not_lt_zero _)⟩⟩
    case round =>
      obtain ⟨i, n', vw, kv', d, ts, e, rfl, hin, hlv, hfu, hd6, he, htl, hhas⟩ := hrel
      have LV := hid hlv
      have HD6 := hid hd6
      have HFU := hid hfu
      have HHAS := hid hhas
      clear hlv hd6 hfu hhas LV4
      by_cases hlt : i < 2 * n
      · obtain ⟨j, hjj⟩ : ∃ j, i % n = j := ⟨_, rfl⟩
        obtain ⟨r1, r2, r3, r4, r5, r6, hiI, hn0I⟩ := once_arith hjj hlt g1
        have hi2 : j < l.length := by rw [HN.out]; exact r5
        have hL2 := L2.out.keep LV.out.keep (by simp)
        obtain ⟨-, b0, o0, ha0, hb0, hr0⟩ := hL2.at (Nat.pos_of_ne_zero r6)
        subst ha0
        have f2 := hr0 j _ (st_at l j hi2)
        obtain ⟨x, hx⟩ : ∃ x, l[j] = x := ⟨_, rfl⟩
        rw [hx] at f2
        have hx3 : x.size ≤ 300 := HS.out x (by rw [← hx]; exact List.getElem_mem hi2)
        have HXJ : Hid (l[i % n]? = some x) := hid (by rw [hjj, List.getElem?_eq_getElem hi2, hx])
        obtain ⟨t, htt⟩ : ∃ t : Bs, x.data.toList = t := ⟨_, rfl⟩
        have hts : tx t = x := by rw [← htt]; rfl
        have htl3 : t.length ≤ 300 := by rw [← tx_sz, hts]; exact hx3
        obtain ⟨hr1, hr2⟩ := once_room he hlt g1 (nsec_le htl3)
        have HP := hid (live_call LV.out HE2.out t htl3 (by rw [HD6.out]; exact hr1) (by rw [HD6.out]; decide) (once_few htl hlt g1))
        rw [hts] at HP
        have HR2 := hid hr2
        have HR1 := hid hr1
        have HTT := hid htt
        clear hr0 hL2 hx htt hts hr1 hr2 hjj
        go_wp2_with (first | (go_at_call 24; fail))
        refine HP.out.mono ?_
        rintro e7 w7 ⟨v7, rfl, hput⟩
        clear HP
        cases hput with
        | there hin b =>
          have L7 := hid (LV.out.below b)
          have H7 : Hid (Has l (i + 1) n ts) := hid (by
            have := HHAS.out.next HXJ.out (us := []) (Or.inl rfl) (by rw [List.append_nil, HTT.out]; exact hin)
            rwa [List.append_nil] at this)
          clear b hin
          go_wp2
          go_roundw
          case rel => exact ⟨i + 1, n', vw, kv', d, ts, e, by go_num, hlt, L7.out, HFU.out, HD6.out, (once_rel he htl).1, (once_rel he htl).2.1, H7.out⟩
          case measure => simp [intOf]; omega
        | put hin kv7 m a k v =>
          have L7 := hid (LV.out.put htl3 hin (by rw [HD6.out]; exact HR1.out) m a k v)
          have H7 : Hid (Has l (i + 1) n (ts ++ [t])) := hid (HHAS.out.next HXJ.out (Or.inr (by rw [HTT.out])) (by rw [HTT.out]; simp))
          have hf7 : Hid (((wrN d t e (nsec t)).burnt.settled allK).fuse = -1) := hid (fuse_after HFU.out _ _ _ _)
          have hd7 : Hid (((wrN d t e (nsec t)).burnt.settled allK).sure.length = 600) := hid (by rw [len_after]; exact HD6.out)
          clear hin m a k v
          go_wp2
          go_roundw
          case rel => exact ⟨i + 1, n' + 1, _, kv7, _, ts ++ [t], e + nsec t, by go_num, hlt, L7.out, hf7.out, hd7.out, HR2.out, by rw [List.length_append, List.length_singleton]; exact (once_rel he htl).2.2, H7.out⟩
          case measure => simp [intOf]; omega
        | dead hin vw7 j7 hj hd a k v => exact absurd (wrN_live HFU.out t e j7) (by rw [hd]; decide)
      · have hiI : ¬ (i : Int) < 2 * (n : Int) := by omega
        obtain rfl : i = 2 * n := by omega
        have HO := hid (LV.out.mine.open HE2.out LV.out.inv HFU.out (by rw [HD6.out]; decide))
        go_wp2_with (first | (go_at_call 23; fail))
        refine HO.out.mono ?_
        rintro eA wA ⟨Y, MY, nY, BY, kvY, rfl, lA, kA, -⟩
        have LA := hid lA
        have MX := hid (LV.out.mem.mv kA (fun b hb hq => LV.out.dis b hb (by simp at hq; rcases hq with rfl | rfl <;> simp [blocks])))
        clear lA kA HO
        have hlu : ts.length ≤ 1000 := by omega
        have HKY := hid (keys_any LA.out.mem hlu)
        go_wp2_with (first | (go_at_call 26; fail))
        refine HKY.out.mono ?_
        rintro eB wB ⟨vB, rfl, oB, bB⟩
        have LB := hid (LA.out.below bB)
        have MB2 := hid (MX.out.below bB)
        have OB := hid oB
        clear oB bB
        have HKX := hid (keys_any MB2.out hlu)
        go_wp2_with (first | (go_at_call 26; fail))
        refine HKX.out.mono ?_
        rintro eC wC ⟨vC, rfl, oC, bC⟩
        have LC := hid (LB.out.below bC)
        have HEQ := hid (equal_any vB vC (keyS ts) wC ((lst_own OB.out).1.below bC) (lst_own oC).1 (by rw [keyS_len]; exact hlu))
        clear oC bC
        go_wp2_with (first | (go_at_call 25; fail))
        refine HEQ.out.mono ?_
        rintro eD wD ⟨rfl, bD⟩
        have LD := hid (LC.out.below bD)
        clear bD HEQ HKX HKY
        have CD := HC3.out.keep LD.out.keep (by simp)
        have cD := CD.cell 0 (v := .string s) rfl
        have HCD := hid CD
        have HSU := hid (sum_any s wD (Nat.le_trans (Nat.le_of_not_lt g4) (by decide)) (env_keep HE2.out LD.out.keep))
        obtain ⟨kx, hkx⟩ : ∃ kx, (⟨(sumL s.data.toList).toArray⟩ : ByteArray) = kx := ⟨_, rfl⟩
        rw [hkx] at HSU
        have HKV := hid (show tx (sumL s.data.toList) = kx from hkx)
        clear hkx CD
        have hmf : ∀ (fn : Fn) (first cap : Array Value) (w : World), (Instr.makeFunc fn first cap).run Tryd.prog w = .ok (.func fn first cap) w := fun _ _ _ _ => rfl
        go_wp2_with (first | (go_at_call 28; fail))
        refine HSU.out.mono ?_
        rintro eE wE ⟨rfl, bE⟩
        have LE := hid (LD.out.below bE)
        have HCE := hid (HCD.out.below bE)
        clear bE HSU cD
        by_cases hin : sumL s.data.toList ∈ ts.map sumL
        · have HGT := hid (get_some LE.out.mem (by rw [sumL_len]; decide) hin)
          rw [HKV.out] at HGT
          have hany : l.any (sameS s) = true := (HHAS.out.all HN.out s).1 hin
          go_wp2_with (first | (go_at_call 27; fail))
          refine HGT.out.mono ?_
          rintro eF wF ⟨t', -, -, rfl, bF⟩
          have LF := hid (LE.out.below bF)
          have HCF := hid (HCE.out.below bF)
          have HO2 := hid (has_once2 _ l s W.heap.size wF (L2.out.keep LF.out.keep (by simp)) (by rw [HN.out]; exact Nat.le_trans (Nat.le_of_not_lt g1) (by decide)) HS.out (Nat.le_of_not_lt g4) HCF.out (env_keep HE2.out LF.out.keep))
          rw [hany] at HO2
          clear bF HGT hany hin
          go_wp2_with (first | (go_at_call 7; fail))
          refine HO2.out.mono ?_
          rintro eG wG ⟨rfl, bG⟩
          have LG := hid (LF.out.below bG)
          clear bG HO2
          go_wp2
          go_ret
          exact ⟨rfl, HB3.out.trans (LG.out.keep.below (by simp) HB3.out.size)⟩
        · have HGT := hid (get_none LE.out.mem (by rw [sumL_len]; decide) hin)
          rw [HKV.out] at HGT
          have hany : l.any (sameS s) = false := by
            cases hq : l.any (sameS s) with
            | false => rfl
            | true => exact absurd ((HHAS.out.all HN.out s).2 hq) hin
          go_wp2_with (first | (go_at_call 27; fail))
          refine HGT.out.mono ?_
          rintro eF wF ⟨rfl, bF⟩
          have LF := hid (LE.out.below bF)
          have HCF := hid (HCE.out.below bF)
          have HO2 := hid (has_once2 _ l s W.heap.size wF (L2.out.keep LF.out.keep (by simp)) (by rw [HN.out]; exact Nat.le_trans (Nat.le_of_not_lt g1) (by decide)) HS.out (Nat.le_of_not_lt g4) HCF.out (env_keep HE2.out LF.out.keep))
          rw [hany] at HO2
          clear bF HGT hany hin
          go_wp2_with (first | (go_at_call 7; fail))
          refine HO2.out.mono ?_
          rintro eG wG ⟨rfl, bG⟩
          have LG := hid (LF.out.below bG)
          have HBG := hid (HB3.out.trans (LG.out.keep.below (by simp) HB3.out.size))
          have hl0 : 0 < W.heap.size := World.block_lt_of_cell? W ⟨0, 0, none⟩ HG.out
          have hgG := (HBG.out.cell (p := ⟨0, 0, none⟩) hl0).trans HG.out
          have HTL := hid (tell_any 7 wG hgG)
          clear bG HO2 hgG
          go_wp2_with (first | (go_at_call 30; fail))
          refine HTL.out.mono ?_
          rintro eH wH ⟨rfl, bH⟩
          have HBH := hid (HBG.out.trans (bH.mono HBG.out.size))
          clear bH HTL
          go_wp2
          go_ret
          exact ⟨rfl, HBH.out⟩
end Go.Proofs.YtemcpjflpggaeaaDoor.Dk
