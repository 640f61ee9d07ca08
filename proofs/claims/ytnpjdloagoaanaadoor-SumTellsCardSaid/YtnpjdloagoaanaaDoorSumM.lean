import Derived.Test.YtnpjdloagoaanaaDoorSumL
import Derived.Maps.AppendAt
set_option linter.unusedSimpArgs false
set_option linter.unusedVariables false
namespace Go.Proofs.YtnpjdloagoaanaaDoor
open Go.RowKit

theorem own_mono {w : World} {base B : Nat} {e : TypeId} {size : Nat} {v : Value} {n : Nat} {xs : List Value} (hB : B ≤ base) (h : w.ownsRow base e size v n xs) : w.ownsRow B e size v n xs := by
  obtain ⟨h1, h | ⟨g, cap, cur, hv, hg, r⟩⟩ := h
  · exact ⟨h1, Or.inl h⟩
  · exact ⟨h1, Or.inr ⟨g, cap, cur, hv, by omega, r⟩⟩
theorem two_grow {B : Nat} {wa w6 : World} {v v' u : Value} {e : TypeId} {k : Nat} {ys : List Value} (hu : wa.ownsRow B e 1 u k ys) (hne : v.ownBlock ≠ u.ownBlock) (hgrow : wa.grownBy w6 v.ownBlock) (hat : v'.ownBlock = v.ownBlock ∨ v'.ownBlock = some wa.heap.size) : w6.ownsRow B e 1 u k ys ∧ (v'.ownBlock ≠ u.ownBlock ∨ v'.ownBlock = v.ownBlock) := by
  refine ⟨hu.kept hgrow (Or.inr (Ne.symm hne)), ?_⟩
  rcases hat with h | h
  · exact Or.inr h
  · left
    rw [h]
    intro e
    have := (hu.lt _ e.symm).2
    omega
theorem pow_digits (k : Nat) : 65536 ^ (2 * k) = 2 ^ (32 * k) := by
  rw [show (65536 : Nat) = 2 ^ 16 by decide, ← Nat.pow_mul]; congr 1; omega
theorem val_w (k p : Nat) : val (List.replicate (2 * k) 0 ++ [p]) = p * 2 ^ (32 * k) := by
  rw [val_append, val_zeros, List.length_replicate, pow_digits]; simp [val]; rw [Nat.mul_comm]
theorem digs_w (k p : Nat) (hp : p < 65536) : Digs (List.replicate (2 * k) 0 ++ [p]) := by
  intro d hd
  rcases List.mem_append.1 hd with h | h
  · have := (List.mem_replicate.1 h).2; omega
  · simp at h; omega
theorem news1 (w : World) (v : Value) (t : TypeId) (H : Nat) (hH : w.heap.size = H) : ∀ j u, [v][j]? = some u → (w.alloc (.cells #[v] t)).cell? ((⟨H, 0, none⟩ : Addr).add j) = some u := by
  intro j u hj
  match j, hj with
  | 0, hj => simp at hj; subst hj; subst hH; simp [Addr.add]
theorem one1 (x : Int) : ∀ u ∈ [Value.int .u64 x], u.oneCell' = true := by intro u hu; simp at hu; subst hu; rfl
theorem pads_snoc (l : List Nat) (n : Nat) : uc (l ++ List.replicate n 0) ++ [.int .u64 0] = uc (l ++ List.replicate (n + 1) 0) := by
  rw [List.replicate_succ', ← List.append_assoc, uc_snoc]; rfl
theorem block_ne {B b c n : Nat} {e : TypeId} {w : World} {u : Value} {k : Nat} {ys : List Value} (hu : w.ownsRow B e 1 u k ys) (hb : b < B) (h0 : 0 < k) : (Value.slice (some ⟨b, 0, none⟩) n c).ownBlock ≠ u.ownBlock := by
  intro e
  have := (hu.lt b e.symm).1
  omega

def lenV : Value → Nat
  | .slice _ n _ => n
  | _ => 0

set_option maxRecDepth 100000 in
set_option maxHeartbeats 1600000 in
theorem above_any (x k p : Nat) (w : World) (hk : k ≤ 3) (hx : x ≤ 1099511627776) (hp : p < 65536) :
    Calls Tryd.prog 39 #[.int .u64 (x : Int), .int .i64 (k : Int), .int .u64 (p : Int)] w fun e w' => e = .returned (.bool (decide (p * 2 ^ (32 * k) < x ^ k))) ∧ Below w.heap.size w w' := by
  obtain ⟨i0, hi, hz0, hz1, hz2⟩ := info_parts info54
  have HP := Hid.mk hp
  have HX := Hid.mk hx
  clear hp hx
  go_enter Tryd.func39, Tryd.ntmps39
  go_wp2
  go_loopw [7, 12] (fun v i wr => ∃ j : Nat, ∃ l : List Nat, j ≤ k ∧ i = .int .i64 j ∧ wr.ownsRow w.heap.size 54 1 v l.length (uc l) ∧ val l = x ^ j ∧ Digs l ∧ 1 ≤ l.length ∧ l.length ≤ 1 + 3 * j ∧ Below w.heap.size w wr) (fun _ i _ => k - (intOf i).toNat)
  case atStart => exact ⟨0, [1], by omega, rfl, World.ownsRow_lit w #[.int .u64 1] 1 (Nat.le_refl _) (by decide) rfl, by simp [val], (fun d hd => by simp at hd; omega), by simp, by simp, below_box _ _⟩
  case round =>
    obtain ⟨j, l, hj, rfl, hown, hval, hdig, hl1, hl2, hnx⟩ := hrel
    obtain ⟨b, c, rfl, hb1, hb2, hat⟩ := own_form hown hl1
    have hws := hnx.size
    by_cases hlt : j < k
    · have HT := Hid.mk (times_any b c l x wr hat hb2 (by omega) hdig (by have := HX.out; omega))
      have HNX := Hid.mk hnx
      have HV := Hid.mk hval
      clear hown hdig hat hnx hval
      go_wp2_with (go_at_call 56; refine HT.out.mono ?_; rintro e w5 ⟨v', o, rfl, hown5, ⟨ho1, ho2, ho3, ho4⟩, hb5⟩)
      have HO := Hid.mk (And.intro hown5 (And.intro ho1 ho2))
      clear hown5 ho1 ho2
      go_roundw
      case rel => exact ⟨j + 1, o, by omega, by go_num, own_mono hws HO.out.1, by rw [HO.out.2.1, HV.out, Nat.pow_succ], HO.out.2.2, by omega, by omega, bel_then HNX.out hb5⟩
      case measure => simp [intOf]; omega
    · have hje : j = k := by omega
      rw [hje] at hval
      clear hje
      obtain ⟨wa, rfl⟩ : ∃ y, y = wr := ⟨_, rfl⟩
      have HV := Hid.mk (And.intro hval hdig)
      have HOWN := Hid.mk hown
      have HNX := Hid.mk hnx
      clear hown hdig hat hnx hval
      go_wp2_with (first
        | (at_make; refine wpList_make_full _ rfl _ _ 101 rfl wa.heap.size 54 i0 (.int .u64 0) 1 Tryd.underlying101 hi hz0 hz1 _ _ _ _ (2 * k) rfl rfl (by omega) (by omega) (by rw [hz2]; omega) (by unfold maxLen; omega) (Nat.le_refl _) ?_; intro w3 hown3 hgr3; have hw3 := hgr3.size)
        | (at_builtin; refine wpList_append_own_at _ rfl _ _ 101 rfl wa.heap.size 54 i0 (.int .u64 0) 1 8 Tryd.underlying101 hi hz0 hz1 hz2 rfl (by decide) _ _ _ rfl (hown3.alloc _) ⟨w3.heap.size, 0, none⟩ 1 1 [.int .u64 (p : Int)] rfl rfl (news1 _ _ _ _ rfl) (one1 _) (by unfold maxLen; omega) (by omega) (by simp; omega) ?_; intro u w4 hown4 hgr4 hnn hat4))
      obtain ⟨m0, hm0⟩ : ∃ y, List.replicate (2 * k) 0 ++ [p] = y := ⟨_, rfl⟩
      have hml : m0.length = 2 * k + 1 := by rw [← hm0]; simp
      have hu4 : w4.ownsRow wa.heap.size 54 1 u m0.length (uc m0) := by
        rw [hml, ← hm0, uc_snoc]
        have e : uc (List.replicate (2 * k) 0) = (madeCells (Value.cells (.int .u64 0)) (2 * k * 1)).toList := by
          rw [Nat.mul_one]
          show _ = (madeCells #[.int .u64 0] (2 * k)).toList
          rw [toList_madeCells_one]; simp [uc]
        rw [e]
        exact hown4
      have hv4 : w4.ownsRow w.heap.size 54 1 (.slice (some ⟨b, 0, none⟩) l.length c) l.length (uc l) := ((HOWN.out.kept hgr3 (Or.inr (by simp [Value.ownBlock]))).alloc _).kept hgr4 (Or.inr (by intro h; have : b = wa.heap.size := Option.some.inj h; omega))
      have hne : (Value.slice (some ⟨b, 0, none⟩) l.length c).ownBlock ≠ u.ownBlock := block_ne hu4 hb2 (by omega)
      have hb4 : Below w.heap.size w w4 := (((HNX.out.grown hgr3 hws (by simp)).alloc (by omega) _).grown hgr4 (by simp; omega) (by intro q hq; have : wa.heap.size = q := Option.some.inj hq; omega))
      have HB4 := Hid.mk hb4
      have HV4 := Hid.mk hv4
      have HU4 := Hid.mk (own_mono hws hu4)
      have HNE := Hid.mk hne
      have HM0 := Hid.mk hm0
      obtain ⟨ua, ucap, rfl⟩ := owns_form hu4
      have HML := Hid.mk hml
      clear hml hb4 hv4 hu4 hne hm0 hown4 hgr4 hnn hat4 hown3 hgr3 hw3
      go_loopw [7] (fun v wr => ∃ n : Nat, l.length + n ≤ 30 ∧ wr.ownsRow w.heap.size 54 1 v (l ++ List.replicate n 0).length (uc (l ++ List.replicate n 0)) ∧ wr.ownsRow w.heap.size 54 1 (.slice ua m0.length ucap) m0.length (uc m0) ∧ v.ownBlock ≠ (Value.slice ua m0.length ucap).ownBlock ∧ Below w.heap.size w wr) (fun v _ => m0.length - lenV v)
      case atStart => exact ⟨0, by omega, by rw [List.replicate_zero, List.append_nil]; exact HV4.out, HU4.out, HNE.out, HB4.out⟩
      case round =>
        obtain ⟨n, hn, hov, hou, hne, hnx⟩ := hrel
        obtain ⟨va, vcap, rfl⟩ := owns_form hov
        have hll : (l ++ List.replicate n 0).length = l.length + n := by simp
        have hws' := hnx.size
        have HOV := Hid.mk hov
        have HOU := Hid.mk hou
        have HNE2 := Hid.mk hne
        have HNX2 := Hid.mk hnx
        clear hov hou hne hnx
        generalize hlv : l ++ List.replicate n 0 = lv at *
        have HLV := Hid.mk hlv
        have HLL := Hid.mk hll
        clear hlv hll
        by_cases hlt2 : lv.length < m0.length
        · go_wp2_with (at_builtin; refine wpList_append_own_at _ rfl _ _ 101 rfl w.heap.size 54 i0 (.int .u64 0) 1 8 Tryd.underlying101 hi hz0 hz1 hz2 rfl (by decide) _ _ _ rfl (HOV.out.alloc _) ⟨wr.heap.size, 0, none⟩ 1 1 [.int .u64 0] rfl rfl (news1 _ _ _ _ rfl) (one1 _) (by have := HML.out; unfold maxLen; omega) (by have := HML.out; omega) (by simp; omega) ?_; intro v' w6 hown' hgrow hnn hat)
          have hbl : Below w.heap.size w w6 := (HNX2.out.alloc hws' _).grown hgrow (by simp; omega) (fun q hq => (HOV.out.lt q hq).1)
          have htw := two_grow (HOU.out.alloc _) HNE2.out hgrow hat
          have HTW := Hid.mk (And.intro htw (And.intro hown' hbl))
          have hform : ∃ a c, v' = .slice a (lv.length + 1) c := owns_form hown'
          obtain ⟨va', vc', rfl⟩ := hform
          clear htw hown' hgrow hnn hat hbl
          go_wp2
          go_roundw
          case rel =>
            refine ⟨n + 1, by have := HML.out; have := HLL.out; omega, ?_, HTW.out.1.1, ?_, HTW.out.2.2⟩
            · have := HTW.out.2.1
              rw [show uc lv ++ [.int .u64 0] = uc (l ++ List.replicate (n + 1) 0) by rw [← HLV.out, pads_snoc]] at this
              have e : (l ++ List.replicate (n + 1) 0).length = lv.length + 1 := by rw [← HLV.out]; simp; omega
              rw [e]
              exact this
            · rcases HTW.out.1.2 with h | h
              · exact h
              · rw [h]; exact HNE2.out
          case measure => simp [lenV]; omega
        · have hval : val lv = x ^ k ∧ Digs lv := ⟨by rw [← HLV.out, val_pad]; exact HV.out.1, by rw [← HLV.out]; exact HV.out.2.pad n⟩
          have HVV := Hid.mk hval
          have hl30 : lv.length ≤ 30 := by have := HLL.out; omega
          obtain ⟨wb, rfl⟩ : ∃ y, y = wr := ⟨_, rfl⟩
          clear hval HV HOWN HNX HB4 HV4 HU4 HNE HLV HLL hn
          go_wp2
          go_loopw [8] (fun u wr => ∃ n : Nat, m0.length + n ≤ lv.length ∧ wr.ownsRow w.heap.size 54 1 u (m0 ++ List.replicate n 0).length (uc (m0 ++ List.replicate n 0)) ∧ wr.ownsRow w.heap.size 54 1 (.slice va lv.length vcap) lv.length (uc lv) ∧ u.ownBlock ≠ (Value.slice va lv.length vcap).ownBlock ∧ Below w.heap.size w wr) (fun u _ => lv.length - lenV u)
          case atStart => exact ⟨0, by omega, by rw [List.replicate_zero, List.append_nil]; exact HOU.out, HOV.out, Ne.symm HNE2.out, HNX2.out⟩
          case round =>
            obtain ⟨n2, hn2, hou, hov, hne, hnx⟩ := hrel
            obtain ⟨ua', ucap', rfl⟩ := owns_form hou
            have hll : (m0 ++ List.replicate n2 0).length = m0.length + n2 := by simp
            have hws2 := hnx.size
            have HOV3 := Hid.mk hov
            have HOU3 := Hid.mk hou
            have HNE3 := Hid.mk hne
            have HNX3 := Hid.mk hnx
            clear hov hou hne hnx HOV HOU HNE2 HNX2
            generalize hlv : m0 ++ List.replicate n2 0 = mv at *
            have HLV := Hid.mk hlv
            have HLL := Hid.mk hll
            clear hlv hll
            by_cases hlt3 : mv.length < lv.length
            · go_wp2_with (at_builtin; refine wpList_append_own_at _ rfl _ _ 101 rfl w.heap.size 54 i0 (.int .u64 0) 1 8 Tryd.underlying101 hi hz0 hz1 hz2 rfl (by decide) _ _ _ rfl (HOU3.out.alloc _) ⟨wr.heap.size, 0, none⟩ 1 1 [.int .u64 0] rfl rfl (news1 _ _ _ _ rfl) (one1 _) (by unfold maxLen; omega) (by omega) (by simp; omega) ?_; intro v' w6 hown' hgrow hnn hat)
              have hbl : Below w.heap.size w w6 := (HNX3.out.alloc hws2 _).grown hgrow (by simp; omega) (fun q hq => (HOU3.out.lt q hq).1)
              have htw := two_grow (HOV3.out.alloc _) HNE3.out hgrow hat
              have HTW := Hid.mk (And.intro htw (And.intro hown' hbl))
              have hform : ∃ a c, v' = .slice a (mv.length + 1) c := owns_form hown'
              obtain ⟨va', vc', rfl⟩ := hform
              clear htw hown' hgrow hnn hat hbl
              go_wp2
              go_roundw
              case rel =>
                refine ⟨n2 + 1, by have := HLL.out; omega, ?_, HTW.out.1.1, ?_, HTW.out.2.2⟩
                · have := HTW.out.2.1
                  rw [show uc mv ++ [.int .u64 0] = uc (m0 ++ List.replicate (n2 + 1) 0) by rw [← HLV.out, pads_snoc]] at this
                  have e : (m0 ++ List.replicate (n2 + 1) 0).length = mv.length + 1 := by rw [← HLV.out]; simp; omega
                  rw [e]
                  exact this
                · rcases HTW.out.1.2 with h | h
                  · exact h
                  · rw [h]; exact HNE3.out
              case measure => simp [lenV]; omega
            · have hln : mv.length = lv.length := by have := HLL.out; omega
              have hvm : val mv = p * 2 ^ (32 * k) ∧ Digs mv := ⟨by rw [← HLV.out, val_pad, ← HM0.out, val_w], by rw [← HLV.out, ← HM0.out]; exact (digs_w k p HP.out).pad n2⟩
              have hml := HML.out
              have hge : 1 ≤ lv.length := by have := HLL.out; omega
              obtain ⟨bv, cv, ev, hbv1, hbv2, hav⟩ := own_form HOV3.out hge
              obtain ⟨bm, cm, em, hbm1, hbm2, ham⟩ := own_form HOU3.out (by omega)
              cases ev
              cases em
              have HAV := Hid.mk hav
              have HAM := Hid.mk ham
              have HVM := Hid.mk hvm
              have HLN := Hid.mk hln
              obtain ⟨wd, rfl⟩ : ∃ y, y = wr := ⟨_, rfl⟩
              have hlt3' : ¬ mv.length < lv.length := hlt3
              clear hav ham hvm hml HOV3 HOU3 HNE3 hln hlt3
              go_wp2
              go_loopw [9] (fun i wr => ∃ j : Nat, ∃ n' : Nat, i = .int .i64 ((j : Int) - 1) ∧ j ≤ lv.length ∧ lv.drop j = mv.drop j ∧ wr = wd.drewN n') (fun i _ => (intOf i + 1).toNat)
              case atStart => exact ⟨lv.length, 0, rfl, Nat.le_refl _, by rw [List.drop_length, List.drop_eq_nil_of_le (by have := HLN.out; omega)], rfl⟩
              case round =>
                obtain ⟨j, n', rfl, hj, hdr, rfl⟩ := hrel
                have HDR := Hid.mk hdr
                clear hdr
                match j, hj, HDR with
                | 0, hj, HDR =>
                  have hfin : lv = mv := by have := HDR.out; simpa using this
                  have hdec : decide (p * 2 ^ (32 * k) < x ^ k) = false := by
                    rw [← HVV.out.1, ← HVM.out.1, hfin]; simp
                  have HDEC := Hid.mk hdec
                  clear hdec hfin
                  go_wp2
                  go_ret
                  exact ⟨ret_bool HDEC.out.symm, below_drewN HNX3.out _⟩
                | j + 1, hj, HDR =>
                  have hjm : j < mv.length := by have := HLN.out; omega
                  have cv1 := HAV.out j hj
                  have cm1 := HAM.out j hjm
                  obtain ⟨p1, hp1⟩ : ∃ y, lv[j] = y := ⟨_, rfl⟩
                  obtain ⟨p2, hp2⟩ : ∃ y, mv[j] = y := ⟨_, rfl⟩
                  rw [hp1] at cv1
                  rw [hp2] at cm1
                  have hcase : lv.drop (j + 1) = mv.drop (j + 1) ∧ (p1 = p2 → lv.drop j = mv.drop j) ∧ (p1 ≠ p2 → decide (p * 2 ^ (32 * k) < x ^ k) = decide (p2 < p1)) := by
                    refine ⟨HDR.out, fun e => ?_, fun e => ?_⟩
                    · rw [List.drop_eq_getElem_cons hj, List.drop_eq_getElem_cons hjm, HDR.out, hp1, hp2, e]
                    · rw [← HVV.out.1, ← HVM.out.1]
                      rcases Nat.lt_or_gt_of_ne e with h | h
                      · have := val_above HVM.out.2 HVV.out.2 j hjm hj HDR.out.symm (by omega)
                        rw [decide_eq_false (by omega), decide_eq_false (by omega)]
                      · have := val_above HVV.out.2 HVM.out.2 j hj hjm HDR.out (by omega)
                        rw [decide_eq_true (by omega), decide_eq_true (by omega)]
                  have HC := Hid.mk hcase
                  clear hcase hp1 hp2
                  have hi1 : (j : Int) < (lv.length : Int) := by omega
                  have hi2 : (j : Int) < (mv.length : Int) := by omega
                  by_cases he : p1 = p2
                  · go_wp2
                    go_quiet (fail)
                    go_wp2
                    go_roundw
                    case rel => exact ⟨j, _, by go_num, by omega, HC.out.2.1 he, rfl⟩
                    case measure => simp [intOf]
                  · go_wp2
                    go_quiet (fail)
                    go_wp2
                    go_quiet (fail)
                    go_wp2
                    go_ret
                    exact ⟨ret_bool (by rw [HC.out.2.2 he]), below_drewN (below_drewN (below_drewN HNX3.out _) _) _⟩
end Go.Proofs.YtnpjdloagoaanaaDoor
