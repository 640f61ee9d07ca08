import Derived.Test.YtedflhiflomoeaaGreatDoorRefS
import Derived.Deep.RegionLaw
set_option linter.unusedSimpArgs false
set_option linter.unusedVariables false
namespace Go.Proofs.YtedflhiflomoeaaGreatDoor
open Go.RowKit

theorem Tryz.infoRTok : (Tryz.prog.info? 64).map (fun i => (i.zero, i.size, i.bytes)) = some (some (.agg #[.int .i64 0, .string ⟨#[]⟩, .int .i64 0]), 3, 32) := by kernel_rfl
def rtkV (ts : List Tk) : List Value := ts.flatMap fun t => [.int .i64 ((t.1 + 1 : Nat) : Int), .string (ba t.2.1), .int .i64 (t.2.2 : Nat)]
theorem rtkV_app (ts : List Tk) (t : Tk) : rtkV (ts ++ [t]) = rtkV ts ++ [.int .i64 ((t.1 + 1 : Nat) : Int), .string (ba t.2.1), .int .i64 (t.2.2 : Nat)] := by simp [rtkV]
theorem news3 (w : World) (a b c : Value) (t : TypeId) (H : Nat) (hH : w.heap.size = H) : ∀ j u, [a, b, c][j]? = some u → (w.alloc (.cells #[a, b, c] t)).cell? ((⟨H, 0, none⟩ : Addr).add j) = some u := by
  intro j u hj
  match j, hj with
  | 0, hj => simp at hj; subst hj; subst hH; simp [Addr.add]
  | 1, hj => simp at hj; subst hj; subst hH; simp [Addr.add]
  | 2, hj => simp at hj; subst hj; subst hH; simp [Addr.add]
theorem one3t (x z : Int) (s : ByteArray) : ∀ u ∈ [Value.int .i64 x, .string s, .int .i64 z], u.oneCell' = true := by intro u hu; simp at hu; rcases hu with rfl | rfl | rfl <;> rfl
/-- An append to a row of the call's own, as a step of a region in any order. -/
theorem step_append_own {P : Program} {ops : Array Oper} {o : Oper} {a : Act} {w : World} {K : Act → World → Prop} {Q : Exit → Act → World → Prop} {E : Prop} (hgd : o.guard = none) (s x : Operand) (t : TypeId)
    (ho : o.op = .call { callee := .builtin .append, args := #[s, x], argTypes := #[t, t] })
    (base : Nat) (e : TypeId) (i : TypeInfo) (z : Value) (size bytes : Nat) (ht : P.underlying t = some (.slice e)) (hi : P.info? e = some i) (hz : i.zero = some z)
    (hsize : i.size = size) (hby : i.bytes = bytes) (hzs : z.cells.size = size) (hsz : 0 < size)
    (v : Value) (n : Nat) (xs : List Value) (hs : a.eval s = v) (hown : w.ownsRow base e size v n xs)
    (ad : Addr) (m c : Nat) (news : List Value) (hx : a.eval x = .slice (some ad) m c) (hl : news.length = m * size) (hnews : ∀ j u, news[j]? = some u → w.cell? (ad.add j) = some u) (h1 : ∀ u ∈ news, u.oneCell' = true)
    (h63 : n + m ≤ maxLen) (hbytes : (n + m) * bytes ≤ 140737488355328) (hbase : base ≤ w.heap.size)
    (h : ∀ v' w', w'.ownsRow base e size v' (n + m) (xs ++ news) → w.grownBy w' v.ownBlock → (v' = .slice none 0 0 ↔ v = .slice none 0 0 ∧ m = 0) → K (a.put o.dst v') w') :
    if Region.wanted o (yielded ops a.tmps) = true then Oper.wp P o a w K Q else E := by
  rw [if_pos (by simp [Region.wanted, hgd])]
  exact wp_append_own w s x t ho base e i z size bytes ht hi hz hsize hby hzs hsz v n xs hs hown ad m c news hx hl hnews h1 h63 hbytes hbase h
/-- What comes of a text's tokens. -/
def TokQ (s : By) (w : World) (e : Ending) (w' : World) : Prop := Below w.heap.size w w' ∧ match tokensL s with
  | .ok ts => ∃ v, e = .returned (.tuple #[v, .agg #[.int .i64 0, .int .i64 (-1)]]) ∧ w'.ownsRow w.heap.size 64 3 v ts.length (rtkV ts)
  | .error er => e = .returned (.tuple #[.slice none 0 0, .agg #[.int .i64 er.1, .int .i64 er.2]])
/-- Where the reading of tokens stands. -/
def TokAt (s : By) (k : Nat) (acc : List Tk) : Prop := ∃ g, s.length - k < g ∧ tokensL s = contT s k acc g ∧ acc.length ≤ 400
theorem tokAt_next {s : By} {k : Nat} {acc : List Tk} (h : TokAt s k acc) (hk : k < s.length) (hb : blankB s[k] = false) {kd n : Nat} (hf : firstL (s.drop k) = some (kd, n)) (hl : ¬ acc.length = 400) : TokAt s (k + n) (acc ++ [(kd, (s.drop k).take n, k)]) := by
  obtain ⟨g, hg, he, ha⟩ := h
  obtain ⟨g', rfl⟩ : ∃ g', g = g' + 1 := ⟨g - 1, by omega⟩
  have h1 := first_len hf
  refine ⟨g', by omega, by rw [he, cont_tok hk acc g' hb hf hl], by simp; omega⟩
theorem tokAt_limit {s : By} {k : Nat} {acc : List Tk} (h : TokAt s k acc) (hk : k < s.length) (hb : blankB s[k] = false) {kd n : Nat} (hf : firstL (s.drop k) = some (kd, n)) (hl : acc.length = 400) : tokensL s = .error (4, k) := by
  obtain ⟨g, hg, he, ha⟩ := h
  obtain ⟨g', rfl⟩ : ∃ g', g = g' + 1 := ⟨g - 1, by omega⟩
  rw [he, cont_limit hk acc g' hb hf hl]
theorem tokAt_none {s : By} {k : Nat} {acc : List Tk} (h : TokAt s k acc) (hk : k < s.length) (hb : blankB s[k] = false) (hf : firstL (s.drop k) = none) : tokensL s = .error (3, k) := by
  obtain ⟨g, hg, he, ha⟩ := h
  obtain ⟨g', rfl⟩ : ∃ g', g = g' + 1 := ⟨g - 1, by omega⟩
  rw [he, cont_none hk acc g' hb hf]
theorem tokAt_blank {s : By} {k : Nat} {acc : List Tk} (h : TokAt s k acc) (hk : k < s.length) (hb : blankB s[k] = true) : TokAt s (k + 1) acc := by
  obtain ⟨g, hg, he, ha⟩ := h
  obtain ⟨g', rfl⟩ : ∃ g', g = g' + 1 := ⟨g - 1, by omega⟩
  exact ⟨g' + 1, by omega, by rw [he, cont_blank hk acc g' hb], ha⟩
theorem tokAt_end {s : By} {acc : List Tk} (h : TokAt s s.length acc) : tokensL s = .ok (acc ++ [(4, [], s.length)]) := by
  obtain ⟨g, hg, he, ha⟩ := h
  obtain ⟨g', rfl⟩ : ∃ g', g = g' + 1 := ⟨g - 1, by omega⟩
  rw [he, cont_end]
theorem u8_ne {c d : UInt8} (h : ¬ c = d) : ((c.toNat : Int) == (d.toNat : Int)) = false := by
  rw [beq_eq_false_iff_ne]
  intro e
  exact h (UInt8.toNat.inj (by omega))
theorem ownsRow_setCell_off {w : World} {base : Nat} {e : TypeId} {size : Nat} {v : Value} {n : Nat} {xs : List Value} {K i : Nat} (h : w.ownsRow base e size v n xs) (hK : K < base) (u : Value) : (w.setCell ⟨K, i, none⟩ u).ownsRow base e size v n xs :=
  h.kept (row := some K) ⟨rfl, rfl, rfl, by simp [World.setCell], fun j hj hne => Below.heap_setCell _ _ _ _ (by intro e; exact hne (by rw [e]))⟩ (by
    cases hk : v.ownBlock with
    | none => exact Or.inl rfl
    | some k =>
      have := (h.lt k hk).1
      exact Or.inr (by intro e; injection e with e; omega))
theorem ownsRow_setCell_above {w : World} {base : Nat} {e : TypeId} {size : Nat} {v : Value} {n : Nat} {xs : List Value} {K i : Nat} (h : w.ownsRow base e size v n xs) (hK : ∀ b, v.ownBlock = some b → b < K) (u : Value) : (w.setCell ⟨K, i, none⟩ u).ownsRow base e size v n xs :=
  h.kept (row := some K) ⟨rfl, rfl, rfl, by simp [World.setCell], fun j hj hne => Below.heap_setCell _ _ _ _ (by intro e; exact hne (by rw [e]))⟩ (by
    cases hk : v.ownBlock with
    | none => exact Or.inl rfl
    | some k =>
      have := hK k hk
      exact Or.inr (by intro e; injection e with e; omega))
theorem succ_ar {k K1 N : Nat} (h : k + 1 = K1) (hk : k < N) (hN : N ≤ 1000000) : wrap64 ((k : Int) + 1) = (K1 : Int) ∧ (k : Int) + 1 = (K1 : Int) ∧ (K1 : Int) ≤ (N : Int) ∧ (0 : Int) ≤ (K1 : Int) ∧ wrap64 (K1 : Int) = (K1 : Int) := by
  unfold wrap64
  refine ⟨by omega, by omega, by omega, by omega, by omega⟩
theorem drop_tail {s : By} {N : Nat} (h : s.length = N) (K1 : Nat) : (ba s).extract K1 N = ba (s.drop K1) := by
  rw [ext_ba, List.take_of_length_le (by rw [List.length_drop, h]; exact Nat.le_refl _)]
theorem mark_first {x : By} {n : Nat} (h : ((marksL.find? fun m => m.isPrefixOf x).map fun m => m.length) = some n) : ((marksL.find? fun m => m.isPrefixOf x).map fun m => (3, m.length)) = some (3, n) := by
  cases hf : marksL.find? fun m => m.isPrefixOf x with
  | none => rw [hf] at h; cases h
  | some m => rw [hf] at h; cases h; rfl
theorem mark_noneF {x : By} (h : ((marksL.find? fun m => m.isPrefixOf x).map fun m => m.length) = none) : ((marksL.find? fun m => m.isPrefixOf x).map fun m => (3, m.length)) = none := by
  cases hf : marksL.find? fun m => m.isPrefixOf x with
  | none => rfl
  | some m => rw [hf] at h; cases h
theorem mark_J {s : By} {k n J N kd : Nat} (hN : s.length = N) (hk : k < s.length) (hf : firstL (s.drop k) = some (kd, n)) (h : k + n = J) : k < J ∧ J ≤ N := by
  have := first_len hf
  rw [List.length_drop] at this
  omega
theorem quo_m {m K1 N : Nat} (h : m < N - K1) (hN : N ≤ 1000000) : m ≤ 1000000 := by omega
theorem quo_lt {k m n J : Nat} (h : k + n = J) (hn : m + 2 = n) : k < J := by omega
theorem quo_le {k m n J K1 N : Nat} (h : k + n = J) (hn : m + 2 = n) (hK : k + 1 = K1) (hm : m < N - K1) : J ≤ N := by omega
theorem quo_ar {k m n J N : Nat} (h : k + n = J) (hn : m + 2 = n) (hJ : J ≤ N) (hN : N ≤ 1000000) : wrap64 (wrap64 ((k : Int) + (m : Int)) + 2) = (J : Int) ∧ (k : Int) + (m : Int) + 2 = (J : Int) ∧ (0 : Int) ≤ (m : Int) ∧ wrap64 (J : Int) = (J : Int) := by
  unfold wrap64
  refine ⟨by omega, by omega, by omega, by omega⟩
theorem ar_next {k J N : Nat} (h : k < J) (hN : N ≤ 1000000) (hJ : J ≤ N) : ((J : Int) == (k : Int)) = false ∧ (k : Int) ≤ (J : Int) ∧ (J : Int) ≤ (N : Int) ∧ (0 : Int) ≤ (k : Int) := by
  refine ⟨by simp; omega, by omega, by omega, by omega⟩

set_option maxRecDepth 100000 in
set_option maxHeartbeats 6400000 in
theorem toksr_any (s : By) (w : World) (hs : s.length ≤ 1000000) (hE : REnv w) : Calls Tryz.prog 9 #[.string (ba s)] w fun e w' => TokQ s w e w' := by
  obtain ⟨i0, hi, hz0, hz1, hz2⟩ := info_parts Tryz.infoRTok
  have hsz : (ba s).size = s.length := ba_size s
  have HSZ := Hid.mk hsz
  have HE := Hid.mk hE
  obtain ⟨N, hNe⟩ : ∃ N, s.length = N := ⟨_, rfl⟩
  have HNE := Hid.mk hNe
  rw [hNe] at hsz hs
  have hN := hs
  have HIX : Hid (∀ (k : Nat) (h : k < (ba s).size) (h' : k < s.length), (ba s)[k]'h = s[k]) := Hid.mk fun k h h' => rfl
  obtain ⟨S, hS⟩ : ∃ S, ba s = S := ⟨_, rfl⟩
  rw [hS] at hsz HSZ HIX ⊢
  obtain ⟨W0, hW0⟩ : ∃ x, w.alloc (.cells #[.int .i64 0, .int .i64 0] 34) = x := ⟨_, rfl⟩
  have hb0 : Below w.heap.size w W0 := by rw [← hW0]; exact below_box _ _
  have hs0 : W0.heap.size = w.heap.size + 1 := by rw [← hW0]; exact World.size_alloc _ _
  have XF0 : Hid (Box W0 w.heap.size [.int .i64 0, .int .i64 0]) := Hid.mk (by rw [← hW0]; exact Box.new w _ _ _ rfl)
  have HB0 := Hid.mk hb0
  have HST : Hid (TokAt s 0 []) := Hid.mk ⟨_, by omega, cont_start s, by simp⟩
  have HS0 := Hid.mk hs0
  clear hE hb0 hNe hs hs0
  go_enter Tryz.func9, Tryz.ntmps9
  go_wp2
  go_loopw [4, 5] (fun l i wr => ∃ (k : Nat) (acc : List Tk) (n0 : Nat), k ≤ N ∧ i = .int .i64 (k : Nat) ∧ wr.ownsRow W0.heap.size 64 3 l n0 (rtkV acc) ∧ Aside (n0 = acc.length ∧ Below W0.heap.size W0 wr ∧ TokAt s k acc)) (fun _ i _ => N - (intOf i).toNat)
  case atStart => exact ⟨0, [], 0, Nat.zero_le _, rfl, World.ownsRow_nil _ _ _ _, rfl, Below.refl _ _, HST.out⟩
  case round =>
    clear HST
    obtain ⟨k, acc, n0, hkN, rfl, hown, HH⟩ := hrel
    by_cases hkl : k < N
    · obtain ⟨la, lc, rfl⟩ := own_slice hown
      have hk : k < s.length := by rw [HNE.out]; exact hkl
      have hkS : k < S.size := by rw [hsz]; exact hkl
      obtain ⟨c, hc⟩ : ∃ c, S[k]'hkS = c := ⟨_, rfl⟩
      have hcs : s[k]'hk = c := (HIX.out k hkS hk).symm.trans hc
      have HTA := Hid.mk HH.out.2.2
      have HO := Hid.mk hown
      clear hown
      by_cases hb : c = 32 ∨ c = 10
      · have HBL := Hid.mk (tokAt_blank HTA.out hk (by rw [hcs]; unfold blankB; rcases hb with rfl | rfl <;> rfl))
        rcases hb with rfl | rfl
        · go_wp2
          go_roundw
          case rel => exact ⟨k + 1, acc, n0, hkl, by go_num, HO.out, HH.out.1, HH.out.2.1, HBL.out⟩
          case measure => simp [intOf]; omega
        · go_wp2
          go_roundw
          case rel => exact ⟨k + 1, acc, n0, hkl, by go_num, HO.out, HH.out.1, HH.out.2.1, HBL.out⟩
          case measure => simp [intOf]; omega
      · have hb1 : ¬ c = 32 := fun e => hb (Or.inl e)
        have hb2 : ¬ c = 10 := fun e => hb (Or.inr e)
        have e1 : ((c.toNat : Int) == 32) = false := u8_ne hb1
        have e2 : ((c.toNat : Int) == 10) = false := u8_ne hb2
        have HNB : Hid (blankB (s[k]'hk) = false) := Hid.mk (by rw [hcs]; unfold blankB; simp [hb1, hb2])
        have HLE : Hid (acc.length ≤ 400) := Hid.mk (by obtain ⟨g, -, -, h⟩ := HTA.out; exact h)
        obtain ⟨V1, hV1⟩ : ∃ x, wr.alloc (.cells #[.int .i64 0, .string ⟨#[]⟩, .int .i64 (k : Nat)] 64) = x := ⟨_, rfl⟩
        have XK1 : Hid (Box V1 wr.heap.size [.int .i64 0, .string ⟨#[]⟩, .int .i64 (k : Nat)]) := Hid.mk (by rw [← hV1]; exact Box.new wr _ _ _ rfl)
        have HBV1 : Hid (Below W0.heap.size W0 V1) := Hid.mk (by rw [← hV1]; exact HH.out.2.1.alloc HH.out.2.1.size _)
        have HO1 : Hid (V1.ownsRow W0.heap.size 64 3 (.slice la n0 lc) n0 (rtkV acc)) := Hid.mk (by rw [← hV1]; exact HO.out.alloc _)
        have HWR := Hid.mk HH.out.2.1.size
        have HNW : Hid (∀ b, (Value.slice la n0 lc).ownBlock = some b → b < wr.heap.size) := Hid.mk fun b hb => (HO.out.lt b hb).2
        clear hb hb1 hb2
        cases hlow : lowB c with
        | true =>
          have hlowS : lowB (s[k]'hk) = true := by rw [hcs]; exact hlow
          have HFR := Hid.mk (rfirst_low hk hlowS)
          as_aux_lemma =>
            obtain ⟨V, hV⟩ : ∃ x, V1.setCell ⟨wr.heap.size, 0, none⟩ (.int .i64 1) = x := ⟨_, rfl⟩
            have XK : Hid (Box V wr.heap.size [.int .i64 1, .string ⟨#[]⟩, .int .i64 (k : Nat)]) := Hid.mk (by rw [← hV]; exact XK1.out.set 0 _)
            have HBV : Hid (Below W0.heap.size W0 V) := Hid.mk (by rw [← hV]; exact HBV1.out.setCell (p := ⟨wr.heap.size, 0, none⟩) HWR.out _)
            have HOV : Hid (V.ownsRow W0.heap.size 64 3 (.slice la n0 lc) n0 (rtkV acc)) := Hid.mk (by rw [← hV]; exact ownsRow_setCell_above HO1.out HNW.out _)
            have XF : Hid (Box V w.heap.size [.int .i64 0, .int .i64 0]) := Hid.mk (XF0.out.below HBV.out)
            have t0 := XK1.out.cell 0 rfl
            have u0 := XK1.out.fz 0
            have hzT := XK1.out.lt
            go_wp2_with (first | (go_at_call 23; refine (low_any c _).mono ?_; rintro e wl ⟨rfl, hwl⟩; obtain rfl := hwl; rw [hlow]))
            clear t0 u0 hzT hV1
            go_loop [7] (fun i => ∃ j : Nat, k ≤ j ∧ j ≤ N ∧ i = .int .i64 (j : Nat) ∧ Aside (runL lowdigB (s.drop k) + k = runL lowdigB (s.drop j) + j)) (fun i => N - (intOf i).toNat)
            case atStart => exact ⟨k, Nat.le_refl _, hkN, rfl, rfl⟩
            case round =>
              obtain ⟨j, hkj, hjN, rfl, HRU⟩ := hrel
              by_cases hjl : j < N
              · have hjs : j < s.length := by rw [HNE.out]; exact hjl
                have hjS : j < S.size := by rw [hsz]; exact hjl
                obtain ⟨d, hd⟩ : ∃ d, S[j]'hjS = d := ⟨_, rfl⟩
                have hds : s[j]'hjs = d := (HIX.out j hjS hjs).symm.trans hd
                cases hlw : lowB d with
                | true =>
                  have HR2 := Hid.mk (show runL lowdigB (s.drop k) + k = runL lowdigB (s.drop (j + 1)) + (j + 1) by rw [HRU.out, run_step hjs (by rw [hds]; unfold lowdigB; rw [hlw]; rfl)]; omega)
                  go_wp2_with (first | (go_at_call 23; refine (low_any d _).mono ?_; rintro e wl ⟨rfl, hwl⟩; obtain rfl := hwl; rw [hlw]))
                  go_round
                  case rel => exact ⟨j + 1, by omega, hjl, by go_num, HR2.out⟩
                  case measure => simp [intOf]; omega
                | false =>
                  cases hdg : digB d with
                  | true =>
                    have HR2 := Hid.mk (show runL lowdigB (s.drop k) + k = runL lowdigB (s.drop (j + 1)) + (j + 1) by rw [HRU.out, run_step hjs (by rw [hds]; unfold lowdigB; rw [hlw, hdg]; rfl)]; omega)
                    go_wp2_with (first | (go_at_call 23; refine (low_any d _).mono ?_; rintro e wl ⟨rfl, hwl⟩; obtain rfl := hwl; rw [hlw]) | (go_at_call 24; refine (dig_any d _).mono ?_; rintro e wl ⟨rfl, hwl⟩; obtain rfl := hwl; rw [hdg]))
                    go_round
                    case rel => exact ⟨j + 1, by omega, hjl, by go_num, HR2.out⟩
                    case measure => simp [intOf]; omega
                  | false =>
                    have hst : runL lowdigB (s.drop j) = 0 := run_stop hjs (by rw [hds]; unfold lowdigB; rw [hlw, hdg]; rfl)
                    have hge : 1 ≤ runL lowdigB (s.drop k) := by rw [run_step hk (by rw [hcs]; unfold lowdigB; rw [hlow]; rfl)]; omega
                    have hru := HRU.out
                    rw [hst] at hru
                    have hkJ : k < j := by omega
                    have hJN : j ≤ N := hjN
                    obtain ⟨n, hn⟩ : ∃ n, runL lowdigB (s.drop k) = n := ⟨_, rfl⟩
                    have HFI := Hid.mk HFR.out
                    rw [hn] at HFI
                    have hnJ : k + n = j := by omega
                    clear hst hge hru hn
                    obtain ⟨a1, a2, a3, a4⟩ := ar_next hkJ hN hJN
                    have hJS : (j : Int) ≤ (S.size : Int) := by rw [hsz]; exact a3
                    by_cases hl : acc.length = 400
                    · have hl4 : n0 = 400 := by rw [HH.out.1]; exact hl
                      have HER := Hid.mk (tokAt_limit HTA.out hk HNB.out HFI.out hl)
                      have hn4 : (400 : Int) ≤ (n0 : Int) := by omega
                      have f0 := XF.out.cell 0 rfl
                      have f1 := XF.out.cell 1 rfl
                      have g0 := XF.out.fz 0
                      have g1 := XF.out.fz 1
                      have hzF := XF.out.lt
                      have HBE := Hid.mk (((bel_then HB0.out HBV.out).setCell (p := ⟨w.heap.size, 0, none⟩) (Nat.le_refl _) (.int .i64 4)).setCell (p := ⟨w.heap.size, 1, none⟩) (Nat.le_refl _) (.int .i64 (k : Nat)))
                      have HFX := Hid.mk ((XF.out.set 0 (.int .i64 4)).set 1 (.int .i64 (k : Nat)))
                      have z0 := HFX.out.cell 0 rfl
                      have z1 := HFX.out.cell 1 rfl
                      clear HFX hl hl4
                      go_wp2_with (first | (go_at_call 23; refine (low_any d _).mono ?_; rintro e wl ⟨rfl, hwl⟩; obtain rfl := hwl; rw [hlw]) | (go_at_call 24; refine (dig_any d _).mono ?_; rintro e wl ⟨rfl, hwl⟩; obtain rfl := hwl; rw [hdg]))
                      refine bodyPost_ret (v := .tuple #[.slice none 0 0, .agg #[.int .i64 4, .int .i64 (k : Nat)]]) (by simp [results, Tryz.results9, go_sem, z0, z1]) rfl ?_
                      refine ⟨HBE.out, ?_⟩
                      rw [HER.out]
                    · have hn4 : ¬ (400 : Int) ≤ (n0 : Int) := by have := HH.out.1; have := HLE.out; omega
                      have HTN := Hid.mk (tokAt_next HTA.out hk HNB.out HFI.out hl)
                      have hxt : (ba s).extract k j = ba ((s.drop k).take n) := (ext_ba s k j).trans (by rw [show j - k = n by omega])
                      obtain ⟨X, hX⟩ : ∃ x, S.extract k j = x := ⟨_, rfl⟩
                      have HXT : Hid (X = ba ((s.drop k).take n)) := Hid.mk (by rw [← hX, ← hS]; exact hxt)
                      have x0 := XK.out.cell 0 rfl
                      have x1 := XK.out.cell 1 rfl
                      have x2 := XK.out.cell 2 rfl
                      have y1 := XK.out.fz 1
                      have hzK := XK.out.lt
                      obtain ⟨V3, hV3⟩ : ∃ x, V.setCell ⟨wr.heap.size, 1, none⟩ (.string X) = x := ⟨_, rfl⟩
                      have XK3 : Hid (Box V3 wr.heap.size [.int .i64 1, .string X, .int .i64 (k : Nat)]) := Hid.mk (by rw [← hV3]; exact XK.out.set 1 _)
                      have HB3 : Hid (Below W0.heap.size W0 V3) := Hid.mk (by rw [← hV3]; exact HBV.out.setCell (p := ⟨wr.heap.size, 1, none⟩) HWR.out _)
                      have O3 : Hid ((V3.alloc (.cells #[.int .i64 1, .string X, .int .i64 (k : Nat)] 64)).ownsRow W0.heap.size 64 3 (.slice la n0 lc) n0 (rtkV acc)) := Hid.mk (by rw [← hV3]; exact (ownsRow_setCell_above HOV.out HNW.out _).alloc _)
                      have hsV3 := HB3.out.size
                      have c0 := XK3.out.cell 0 rfl
                      have c1 := XK3.out.cell 1 rfl
                      have c2 := XK3.out.cell 2 rfl
                      have HJ := Hid.mk (And.intro hnJ hkJ)
                      have HHL := Hid.mk HH.out.1
                      have HLL := Hid.mk HLE.out
                      clear hl hxt hnJ
                      go_wp2_with (first | (go_at_call 23; refine (low_any d _).mono ?_; rintro e wl ⟨rfl, hwl⟩; obtain rfl := hwl; rw [hlw]) | (go_at_call 24; refine (dig_any d _).mono ?_; rintro e wl ⟨rfl, hwl⟩; obtain rfl := hwl; rw [hdg]) | (at_builtin; refine wpList_append_own _ rfl _ _ 44 rfl W0.heap.size 64 i0 (.agg #[.int .i64 0, .string ⟨#[]⟩, .int .i64 0]) 3 32 Tryz.underlying44 hi hz0 hz1 hz2 rfl (by decide) _ _ _ rfl O3.out ⟨V3.heap.size, 0, none⟩ 1 1 [.int .i64 1, .string X, .int .i64 (k : Nat)] rfl rfl (news3 _ _ _ _ _ _ rfl) (one3t _ _ _) ?c3 ?c4 ?c5 ?_))
                      case c3 => have := HHL.out; have := HLL.out; unfold maxLen; omega
                      case c4 => have := HHL.out; have := HLL.out; omega
                      case c5 => first | omega | (simp; omega)
                      intro v' w5 hown' hgrow _
                      have B5 := Hid.mk (show Below W0.heap.size W0 w5 from (HB3.out.alloc HB3.out.size _).grown hgrow (by have := HB3.out.size; simp; omega) (fun b hb => (O3.out.lt b hb).1))
                      have O5 : Hid (w5.ownsRow W0.heap.size 64 3 v' (n0 + 1) (rtkV (acc ++ [(0, (s.drop k).take n, k)]))) := Hid.mk (by rw [rtkV_app, ← HXT.out]; exact hown')
                      clear hown' hgrow
                      go_wp2
                      go_roundw
                      case rel => exact ⟨j, acc ++ [(0, (s.drop k).take n, k)], n0 + 1, hJN, rfl, O5.out, by rw [HH.out.1]; simp, B5.out, by rw [← HJ.out.1]; exact HTN.out⟩
                      case measure => have := HJ.out.2; simp [intOf]; omega
              · have hjE : j = N := Nat.le_antisymm hjN (Nat.le_of_not_lt hjl)
                have hjI : ¬ (j : Int) < (N : Int) := by omega
                have hst : runL lowdigB (s.drop j) = 0 := by rw [hjE, ← HNE.out]; exact run_allR
                have hge : 1 ≤ runL lowdigB (s.drop k) := by rw [run_step hk (by rw [hcs]; unfold lowdigB; rw [hlow]; rfl)]; omega
                have hru := HRU.out
                rw [hst] at hru
                have hkJ : k < j := by omega
                have hJN : j ≤ N := hjN
                obtain ⟨n, hn⟩ : ∃ n, runL lowdigB (s.drop k) = n := ⟨_, rfl⟩
                have HFI := Hid.mk HFR.out
                rw [hn] at HFI
                have hnJ : k + n = j := by omega
                clear hst hge hru hn hjE
                obtain ⟨a1, a2, a3, a4⟩ := ar_next hkJ hN hJN
                have hJS : (j : Int) ≤ (S.size : Int) := by rw [hsz]; exact a3
                by_cases hl : acc.length = 400
                · have hl4 : n0 = 400 := by rw [HH.out.1]; exact hl
                  have HER := Hid.mk (tokAt_limit HTA.out hk HNB.out HFI.out hl)
                  have hn4 : (400 : Int) ≤ (n0 : Int) := by omega
                  have f0 := XF.out.cell 0 rfl
                  have f1 := XF.out.cell 1 rfl
                  have g0 := XF.out.fz 0
                  have g1 := XF.out.fz 1
                  have hzF := XF.out.lt
                  have HBE := Hid.mk (((bel_then HB0.out HBV.out).setCell (p := ⟨w.heap.size, 0, none⟩) (Nat.le_refl _) (.int .i64 4)).setCell (p := ⟨w.heap.size, 1, none⟩) (Nat.le_refl _) (.int .i64 (k : Nat)))
                  have HFX := Hid.mk ((XF.out.set 0 (.int .i64 4)).set 1 (.int .i64 (k : Nat)))
                  have z0 := HFX.out.cell 0 rfl
                  have z1 := HFX.out.cell 1 rfl
                  clear HFX hl hl4
                  go_wp2
                  refine bodyPost_ret (v := .tuple #[.slice none 0 0, .agg #[.int .i64 4, .int .i64 (k : Nat)]]) (by simp [results, Tryz.results9, go_sem, z0, z1]) rfl ?_
                  refine ⟨HBE.out, ?_⟩
                  rw [HER.out]
                · have hn4 : ¬ (400 : Int) ≤ (n0 : Int) := by have := HH.out.1; have := HLE.out; omega
                  have HTN := Hid.mk (tokAt_next HTA.out hk HNB.out HFI.out hl)
                  have hxt : (ba s).extract k j = ba ((s.drop k).take n) := (ext_ba s k j).trans (by rw [show j - k = n by omega])
                  obtain ⟨X, hX⟩ : ∃ x, S.extract k j = x := ⟨_, rfl⟩
                  have HXT : Hid (X = ba ((s.drop k).take n)) := Hid.mk (by rw [← hX, ← hS]; exact hxt)
                  have x0 := XK.out.cell 0 rfl
                  have x1 := XK.out.cell 1 rfl
                  have x2 := XK.out.cell 2 rfl
                  have y1 := XK.out.fz 1
                  have hzK := XK.out.lt
                  obtain ⟨V3, hV3⟩ : ∃ x, V.setCell ⟨wr.heap.size, 1, none⟩ (.string X) = x := ⟨_, rfl⟩
                  have XK3 : Hid (Box V3 wr.heap.size [.int .i64 1, .string X, .int .i64 (k : Nat)]) := Hid.mk (by rw [← hV3]; exact XK.out.set 1 _)
                  have HB3 : Hid (Below W0.heap.size W0 V3) := Hid.mk (by rw [← hV3]; exact HBV.out.setCell (p := ⟨wr.heap.size, 1, none⟩) HWR.out _)
                  have O3 : Hid ((V3.alloc (.cells #[.int .i64 1, .string X, .int .i64 (k : Nat)] 64)).ownsRow W0.heap.size 64 3 (.slice la n0 lc) n0 (rtkV acc)) := Hid.mk (by rw [← hV3]; exact (ownsRow_setCell_above HOV.out HNW.out _).alloc _)
                  have hsV3 := HB3.out.size
                  have c0 := XK3.out.cell 0 rfl
                  have c1 := XK3.out.cell 1 rfl
                  have c2 := XK3.out.cell 2 rfl
                  have HJ := Hid.mk (And.intro hnJ hkJ)
                  have HHL := Hid.mk HH.out.1
                  have HLL := Hid.mk HLE.out
                  clear hl hxt hnJ
                  go_wp2_with (first | (at_builtin; refine wpList_append_own _ rfl _ _ 44 rfl W0.heap.size 64 i0 (.agg #[.int .i64 0, .string ⟨#[]⟩, .int .i64 0]) 3 32 Tryz.underlying44 hi hz0 hz1 hz2 rfl (by decide) _ _ _ rfl O3.out ⟨V3.heap.size, 0, none⟩ 1 1 [.int .i64 1, .string X, .int .i64 (k : Nat)] rfl rfl (news3 _ _ _ _ _ _ rfl) (one3t _ _ _) ?c3 ?c4 ?c5 ?_))
                  case c3 => have := HHL.out; have := HLL.out; unfold maxLen; omega
                  case c4 => have := HHL.out; have := HLL.out; omega
                  case c5 => first | omega | (simp; omega)
                  intro v' w5 hown' hgrow _
                  have B5 := Hid.mk (show Below W0.heap.size W0 w5 from (HB3.out.alloc HB3.out.size _).grown hgrow (by have := HB3.out.size; simp; omega) (fun b hb => (O3.out.lt b hb).1))
                  have O5 : Hid (w5.ownsRow W0.heap.size 64 3 v' (n0 + 1) (rtkV (acc ++ [(0, (s.drop k).take n, k)]))) := Hid.mk (by rw [rtkV_app, ← HXT.out]; exact hown')
                  clear hown' hgrow
                  go_wp2
                  go_roundw
                  case rel => exact ⟨j, acc ++ [(0, (s.drop k).take n, k)], n0 + 1, hJN, rfl, O5.out, by rw [HH.out.1]; simp, B5.out, by rw [← HJ.out.1]; exact HTN.out⟩
                  case measure => have := HJ.out.2; simp [intOf]; omega
        | false =>
          have hlowS : lowB (s[k]'hk) = false := by rw [hcs]; exact hlow
          cases hdig : digB c with
          | true =>
            have HFR := Hid.mk (rfirst_dig hk hlowS (by rw [hcs]; exact hdig))
            as_aux_lemma =>
              obtain ⟨V, hV⟩ : ∃ x, V1.setCell ⟨wr.heap.size, 0, none⟩ (.int .i64 2) = x := ⟨_, rfl⟩
              have XK : Hid (Box V wr.heap.size [.int .i64 2, .string ⟨#[]⟩, .int .i64 (k : Nat)]) := Hid.mk (by rw [← hV]; exact XK1.out.set 0 _)
              have HBV : Hid (Below W0.heap.size W0 V) := Hid.mk (by rw [← hV]; exact HBV1.out.setCell (p := ⟨wr.heap.size, 0, none⟩) HWR.out _)
              have HOV : Hid (V.ownsRow W0.heap.size 64 3 (.slice la n0 lc) n0 (rtkV acc)) := Hid.mk (by rw [← hV]; exact ownsRow_setCell_above HO1.out HNW.out _)
              have XF : Hid (Box V w.heap.size [.int .i64 0, .int .i64 0]) := Hid.mk (XF0.out.below HBV.out)
              have t0 := XK1.out.cell 0 rfl
              have u0 := XK1.out.fz 0
              have hzT := XK1.out.lt
              go_wp2_with (first | (go_at_call 23; refine (low_any c _).mono ?_; rintro e wl ⟨rfl, hwl⟩; obtain rfl := hwl; rw [hlow]) | (go_at_call 24; refine (dig_any c _).mono ?_; rintro e wl ⟨rfl, hwl⟩; obtain rfl := hwl; rw [hdig]))
              clear t0 u0 hzT hV1
              go_loop [7] (fun i => ∃ j : Nat, k ≤ j ∧ j ≤ N ∧ i = .int .i64 (j : Nat) ∧ Aside (runL digB (s.drop k) + k = runL digB (s.drop j) + j)) (fun i => N - (intOf i).toNat)
              case atStart => exact ⟨k, Nat.le_refl _, hkN, rfl, rfl⟩
              case round =>
                obtain ⟨j, hkj, hjN, rfl, HRU⟩ := hrel
                by_cases hjl : j < N
                · have hjs : j < s.length := by rw [HNE.out]; exact hjl
                  have hjS : j < S.size := by rw [hsz]; exact hjl
                  obtain ⟨d, hd⟩ : ∃ d, S[j]'hjS = d := ⟨_, rfl⟩
                  have hds : s[j]'hjs = d := (HIX.out j hjS hjs).symm.trans hd
                  cases hdg : digB d with
                  | true =>
                    have HR2 := Hid.mk (show runL digB (s.drop k) + k = runL digB (s.drop (j + 1)) + (j + 1) by rw [HRU.out, run_step hjs (by rw [hds]; exact hdg)]; omega)
                    go_wp2_with (first | (go_at_call 24; refine (dig_any d _).mono ?_; rintro e wl ⟨rfl, hwl⟩; obtain rfl := hwl; rw [hdg]))
                    go_round
                    case rel => exact ⟨j + 1, by omega, hjl, by go_num, HR2.out⟩
                    case measure => simp [intOf]; omega
                  | false =>
                    have hst : runL digB (s.drop j) = 0 := run_stop hjs (by rw [hds]; exact hdg)
                    have hge : 1 ≤ runL digB (s.drop k) := by rw [run_step hk (by rw [hcs]; exact hdig)]; omega
                    have hru := HRU.out
                    rw [hst] at hru
                    have hkJ : k < j := by omega
                    have hJN : j ≤ N := hjN
                    obtain ⟨n, hn⟩ : ∃ n, runL digB (s.drop k) = n := ⟨_, rfl⟩
                    have HFI := Hid.mk HFR.out
                    rw [hn] at HFI
                    have hnJ : k + n = j := by omega
                    clear hst hge hru hn
                    obtain ⟨a1, a2, a3, a4⟩ := ar_next hkJ hN hJN
                    have hJS : (j : Int) ≤ (S.size : Int) := by rw [hsz]; exact a3
                    by_cases hl : acc.length = 400
                    · have hl4 : n0 = 400 := by rw [HH.out.1]; exact hl
                      have HER := Hid.mk (tokAt_limit HTA.out hk HNB.out HFI.out hl)
                      have hn4 : (400 : Int) ≤ (n0 : Int) := by omega
                      have f0 := XF.out.cell 0 rfl
                      have f1 := XF.out.cell 1 rfl
                      have g0 := XF.out.fz 0
                      have g1 := XF.out.fz 1
                      have hzF := XF.out.lt
                      have HBE := Hid.mk (((bel_then HB0.out HBV.out).setCell (p := ⟨w.heap.size, 0, none⟩) (Nat.le_refl _) (.int .i64 4)).setCell (p := ⟨w.heap.size, 1, none⟩) (Nat.le_refl _) (.int .i64 (k : Nat)))
                      have HFX := Hid.mk ((XF.out.set 0 (.int .i64 4)).set 1 (.int .i64 (k : Nat)))
                      have z0 := HFX.out.cell 0 rfl
                      have z1 := HFX.out.cell 1 rfl
                      clear HFX hl hl4
                      go_wp2_with (first | (go_at_call 24; refine (dig_any d _).mono ?_; rintro e wl ⟨rfl, hwl⟩; obtain rfl := hwl; rw [hdg]))
                      refine bodyPost_ret (v := .tuple #[.slice none 0 0, .agg #[.int .i64 4, .int .i64 (k : Nat)]]) (by simp [results, Tryz.results9, go_sem, z0, z1]) rfl ?_
                      refine ⟨HBE.out, ?_⟩
                      rw [HER.out]
                    · have hn4 : ¬ (400 : Int) ≤ (n0 : Int) := by have := HH.out.1; have := HLE.out; omega
                      have HTN := Hid.mk (tokAt_next HTA.out hk HNB.out HFI.out hl)
                      have hxt : (ba s).extract k j = ba ((s.drop k).take n) := (ext_ba s k j).trans (by rw [show j - k = n by omega])
                      obtain ⟨X, hX⟩ : ∃ x, S.extract k j = x := ⟨_, rfl⟩
                      have HXT : Hid (X = ba ((s.drop k).take n)) := Hid.mk (by rw [← hX, ← hS]; exact hxt)
                      have x0 := XK.out.cell 0 rfl
                      have x1 := XK.out.cell 1 rfl
                      have x2 := XK.out.cell 2 rfl
                      have y1 := XK.out.fz 1
                      have hzK := XK.out.lt
                      obtain ⟨V3, hV3⟩ : ∃ x, V.setCell ⟨wr.heap.size, 1, none⟩ (.string X) = x := ⟨_, rfl⟩
                      have XK3 : Hid (Box V3 wr.heap.size [.int .i64 2, .string X, .int .i64 (k : Nat)]) := Hid.mk (by rw [← hV3]; exact XK.out.set 1 _)
                      have HB3 : Hid (Below W0.heap.size W0 V3) := Hid.mk (by rw [← hV3]; exact HBV.out.setCell (p := ⟨wr.heap.size, 1, none⟩) HWR.out _)
                      have O3 : Hid ((V3.alloc (.cells #[.int .i64 2, .string X, .int .i64 (k : Nat)] 64)).ownsRow W0.heap.size 64 3 (.slice la n0 lc) n0 (rtkV acc)) := Hid.mk (by rw [← hV3]; exact (ownsRow_setCell_above HOV.out HNW.out _).alloc _)
                      have hsV3 := HB3.out.size
                      have c0 := XK3.out.cell 0 rfl
                      have c1 := XK3.out.cell 1 rfl
                      have c2 := XK3.out.cell 2 rfl
                      have HJ := Hid.mk (And.intro hnJ hkJ)
                      have HHL := Hid.mk HH.out.1
                      have HLL := Hid.mk HLE.out
                      clear hl hxt hnJ
                      go_wp2_with (first | (go_at_call 24; refine (dig_any d _).mono ?_; rintro e wl ⟨rfl, hwl⟩; obtain rfl := hwl; rw [hdg]) | (at_builtin; refine wpList_append_own _ rfl _ _ 44 rfl W0.heap.size 64 i0 (.agg #[.int .i64 0, .string ⟨#[]⟩, .int .i64 0]) 3 32 Tryz.underlying44 hi hz0 hz1 hz2 rfl (by decide) _ _ _ rfl O3.out ⟨V3.heap.size, 0, none⟩ 1 1 [.int .i64 2, .string X, .int .i64 (k : Nat)] rfl rfl (news3 _ _ _ _ _ _ rfl) (one3t _ _ _) ?c3 ?c4 ?c5 ?_))
                      case c3 => have := HHL.out; have := HLL.out; unfold maxLen; omega
                      case c4 => have := HHL.out; have := HLL.out; omega
                      case c5 => first | omega | (simp; omega)
                      intro v' w5 hown' hgrow _
                      have B5 := Hid.mk (show Below W0.heap.size W0 w5 from (HB3.out.alloc HB3.out.size _).grown hgrow (by have := HB3.out.size; simp; omega) (fun b hb => (O3.out.lt b hb).1))
                      have O5 : Hid (w5.ownsRow W0.heap.size 64 3 v' (n0 + 1) (rtkV (acc ++ [(1, (s.drop k).take n, k)]))) := Hid.mk (by rw [rtkV_app, ← HXT.out]; exact hown')
                      clear hown' hgrow
                      go_wp2
                      go_roundw
                      case rel => exact ⟨j, acc ++ [(1, (s.drop k).take n, k)], n0 + 1, hJN, rfl, O5.out, by rw [HH.out.1]; simp, B5.out, by rw [← HJ.out.1]; exact HTN.out⟩
                      case measure => have := HJ.out.2; simp [intOf]; omega
                · have hjE : j = N := Nat.le_antisymm hjN (Nat.le_of_not_lt hjl)
                  have hjI : ¬ (j : Int) < (N : Int) := by omega
                  have hst : runL digB (s.drop j) = 0 := by rw [hjE, ← HNE.out]; exact run_allR
                  have hge : 1 ≤ runL digB (s.drop k) := by rw [run_step hk (by rw [hcs]; exact hdig)]; omega
                  have hru := HRU.out
                  rw [hst] at hru
                  have hkJ : k < j := by omega
                  have hJN : j ≤ N := hjN
                  obtain ⟨n, hn⟩ : ∃ n, runL digB (s.drop k) = n := ⟨_, rfl⟩
                  have HFI := Hid.mk HFR.out
                  rw [hn] at HFI
                  have hnJ : k + n = j := by omega
                  clear hst hge hru hn hjE
                  obtain ⟨a1, a2, a3, a4⟩ := ar_next hkJ hN hJN
                  have hJS : (j : Int) ≤ (S.size : Int) := by rw [hsz]; exact a3
                  by_cases hl : acc.length = 400
                  · have hl4 : n0 = 400 := by rw [HH.out.1]; exact hl
                    have HER := Hid.mk (tokAt_limit HTA.out hk HNB.out HFI.out hl)
                    have hn4 : (400 : Int) ≤ (n0 : Int) := by omega
                    have f0 := XF.out.cell 0 rfl
                    have f1 := XF.out.cell 1 rfl
                    have g0 := XF.out.fz 0
                    have g1 := XF.out.fz 1
                    have hzF := XF.out.lt
                    have HBE := Hid.mk (((bel_then HB0.out HBV.out).setCell (p := ⟨w.heap.size, 0, none⟩) (Nat.le_refl _) (.int .i64 4)).setCell (p := ⟨w.heap.size, 1, none⟩) (Nat.le_refl _) (.int .i64 (k : Nat)))
                    have HFX := Hid.mk ((XF.out.set 0 (.int .i64 4)).set 1 (.int .i64 (k : Nat)))
                    have z0 := HFX.out.cell 0 rfl
                    have z1 := HFX.out.cell 1 rfl
                    clear HFX hl hl4
                    go_wp2
                    refine bodyPost_ret (v := .tuple #[.slice none 0 0, .agg #[.int .i64 4, .int .i64 (k : Nat)]]) (by simp [results, Tryz.results9, go_sem, z0, z1]) rfl ?_
                    refine ⟨HBE.out, ?_⟩
                    rw [HER.out]
                  · have hn4 : ¬ (400 : Int) ≤ (n0 : Int) := by have := HH.out.1; have := HLE.out; omega
                    have HTN := Hid.mk (tokAt_next HTA.out hk HNB.out HFI.out hl)
                    have hxt : (ba s).extract k j = ba ((s.drop k).take n) := (ext_ba s k j).trans (by rw [show j - k = n by omega])
                    obtain ⟨X, hX⟩ : ∃ x, S.extract k j = x := ⟨_, rfl⟩
                    have HXT : Hid (X = ba ((s.drop k).take n)) := Hid.mk (by rw [← hX, ← hS]; exact hxt)
                    have x0 := XK.out.cell 0 rfl
                    have x1 := XK.out.cell 1 rfl
                    have x2 := XK.out.cell 2 rfl
                    have y1 := XK.out.fz 1
                    have hzK := XK.out.lt
                    obtain ⟨V3, hV3⟩ : ∃ x, V.setCell ⟨wr.heap.size, 1, none⟩ (.string X) = x := ⟨_, rfl⟩
                    have XK3 : Hid (Box V3 wr.heap.size [.int .i64 2, .string X, .int .i64 (k : Nat)]) := Hid.mk (by rw [← hV3]; exact XK.out.set 1 _)
                    have HB3 : Hid (Below W0.heap.size W0 V3) := Hid.mk (by rw [← hV3]; exact HBV.out.setCell (p := ⟨wr.heap.size, 1, none⟩) HWR.out _)
                    have O3 : Hid ((V3.alloc (.cells #[.int .i64 2, .string X, .int .i64 (k : Nat)] 64)).ownsRow W0.heap.size 64 3 (.slice la n0 lc) n0 (rtkV acc)) := Hid.mk (by rw [← hV3]; exact (ownsRow_setCell_above HOV.out HNW.out _).alloc _)
                    have hsV3 := HB3.out.size
                    have c0 := XK3.out.cell 0 rfl
                    have c1 := XK3.out.cell 1 rfl
                    have c2 := XK3.out.cell 2 rfl
                    have HJ := Hid.mk (And.intro hnJ hkJ)
                    have HHL := Hid.mk HH.out.1
                    have HLL := Hid.mk HLE.out
                    clear hl hxt hnJ
                    go_wp2_with (first | (at_builtin; refine wpList_append_own _ rfl _ _ 44 rfl W0.heap.size 64 i0 (.agg #[.int .i64 0, .string ⟨#[]⟩, .int .i64 0]) 3 32 Tryz.underlying44 hi hz0 hz1 hz2 rfl (by decide) _ _ _ rfl O3.out ⟨V3.heap.size, 0, none⟩ 1 1 [.int .i64 2, .string X, .int .i64 (k : Nat)] rfl rfl (news3 _ _ _ _ _ _ rfl) (one3t _ _ _) ?c3 ?c4 ?c5 ?_))
                    case c3 => have := HHL.out; have := HLL.out; unfold maxLen; omega
                    case c4 => have := HHL.out; have := HLL.out; omega
                    case c5 => first | omega | (simp; omega)
                    intro v' w5 hown' hgrow _
                    have B5 := Hid.mk (show Below W0.heap.size W0 w5 from (HB3.out.alloc HB3.out.size _).grown hgrow (by have := HB3.out.size; simp; omega) (fun b hb => (O3.out.lt b hb).1))
                    have O5 : Hid (w5.ownsRow W0.heap.size 64 3 v' (n0 + 1) (rtkV (acc ++ [(1, (s.drop k).take n, k)]))) := Hid.mk (by rw [rtkV_app, ← HXT.out]; exact hown')
                    clear hown' hgrow
                    go_wp2
                    go_roundw
                    case rel => exact ⟨j, acc ++ [(1, (s.drop k).take n, k)], n0 + 1, hJN, rfl, O5.out, by rw [HH.out.1]; simp, B5.out, by rw [← HJ.out.1]; exact HTN.out⟩
                    case measure => have := HJ.out.2; simp [intOf]; omega
          | false =>
            have hdigS : digB (s[k]'hk) = false := by rw [hcs]; exact hdig
            by_cases hq : c = 39
            · have hqb : ((c.toNat : Int) == 39) = true := by subst hq; rfl
              have HFR := Hid.mk (rfirst_quo hk hlowS hdigS (by rw [hcs]; exact hq))
              clear hq
              as_aux_lemma =>
                obtain ⟨V, hV⟩ : ∃ x, V1.setCell ⟨wr.heap.size, 0, none⟩ (.int .i64 3) = x := ⟨_, rfl⟩
                have XK : Hid (Box V wr.heap.size [.int .i64 3, .string ⟨#[]⟩, .int .i64 (k : Nat)]) := Hid.mk (by rw [← hV]; exact XK1.out.set 0 _)
                have HBV : Hid (Below W0.heap.size W0 V) := Hid.mk (by rw [← hV]; exact HBV1.out.setCell (p := ⟨wr.heap.size, 0, none⟩) HWR.out _)
                have HOV : Hid (V.ownsRow W0.heap.size 64 3 (.slice la n0 lc) n0 (rtkV acc)) := Hid.mk (by rw [← hV]; exact ownsRow_setCell_above HO1.out HNW.out _)
                have XF : Hid (Box V w.heap.size [.int .i64 0, .int .i64 0]) := Hid.mk (XF0.out.below HBV.out)
                have t0 := XK1.out.cell 0 rfl
                have u0 := XK1.out.fz 0
                have hzT := XK1.out.lt

                obtain ⟨K1, hK1⟩ : ∃ x, k + 1 = x := ⟨_, rfl⟩
                have HK := Hid.mk (succ_ar hK1 hkl hN)
                have hex : S.extract K1 N = ba (s.drop K1) := by rw [← hS]; exact drop_tail HNE.out K1
                have HIN : Hid (Calls Tryz.prog 25 #[.string (S.extract K1 N), .string ⟨#[39]⟩] V fun e w' => e = .returned (.int .i64 (match (s.drop K1).findIdx? (· == 39) with | some n => (n : Int) | none => -1)) ∧ w' = V) := Hid.mk (by
                  have := Tryz.strings_Index_one (S.extract K1 N) 39 V
                  rw [hex, ba_list, find_byte] at this
                  rw [hex]
                  exact this)
                have hFR := HFR.out
                rw [hK1] at hFR
                cases hfi : (s.drop K1).findIdx? (· == 39) with
                | none =>
                  rw [hfi] at HIN hFR
                  have HER := Hid.mk (tokAt_none HTA.out hk HNB.out hFR)
                  obtain ⟨hk1, hk2, hK1N, hK10, hK1w⟩ := HK.out
                  clear hFR hex hfi
                  have f0 := XF.out.cell 0 rfl
                  have f1 := XF.out.cell 1 rfl
                  have g0 := XF.out.fz 0
                  have g1 := XF.out.fz 1
                  have hzF := XF.out.lt
                  have HBE := Hid.mk (((bel_then HB0.out HBV.out).setCell (p := ⟨w.heap.size, 0, none⟩) (Nat.le_refl _) (.int .i64 3)).setCell (p := ⟨w.heap.size, 1, none⟩) (Nat.le_refl _) (.int .i64 (k : Nat)))
                  have HFX := Hid.mk ((XF.out.set 0 (.int .i64 3)).set 1 (.int .i64 (k : Nat)))
                  have z0 := HFX.out.cell 0 rfl
                  have z1 := HFX.out.cell 1 rfl
                  clear HFX
                  go_wp2_with (first | (go_at_call 23; refine (low_any c _).mono ?_; rintro e wl ⟨rfl, hwl⟩; obtain rfl := hwl; rw [hlow]) | (go_at_call 24; refine (dig_any c _).mono ?_; rintro e wl ⟨rfl, hwl⟩; obtain rfl := hwl; rw [hdig]) | (go_at_call 25; refine HIN.out.mono ?_; rintro e wl ⟨rfl, hwl⟩; obtain rfl := hwl))
                  refine bodyPost_ret (v := .tuple #[.slice none 0 0, .agg #[.int .i64 3, .int .i64 (k : Nat)]]) (by simp [results, Tryz.results9, go_sem, z0, z1]) rfl ?_
                  refine ⟨HBE.out, ?_⟩
                  rw [HER.out]
                | some m =>
                  have hml := find_len _ _ hfi
                  rw [List.length_drop, HNE.out] at hml
                  rw [hfi] at HIN hFR
                  obtain ⟨n, hn⟩ : ∃ x, m + 2 = x := ⟨_, rfl⟩
                  have HFI : Hid (firstL (s.drop k) = some (2, n)) := Hid.mk (by rw [hFR, ← hn]; rfl)
                  obtain ⟨J, hJ⟩ : ∃ x, k + n = x := ⟨_, rfl⟩
                  have hnJ : k + n = J := hJ
                  have hkJ : k < J := quo_lt hnJ hn
                  have hJN : J ≤ N := quo_le hnJ hn hK1 hml
                  have HQ := Hid.mk (quo_ar hnJ hn hJN hN)
                  have HM6 : Hid (m ≤ 1000000) := Hid.mk (quo_m hml hN)
                  clear hFR hex hfi hml hn hJ
                  obtain ⟨a1, a2, a3, a4⟩ := ar_next hkJ hN hJN
                  have hJS : (J : Int) ≤ (S.size : Int) := by rw [hsz]; exact a3
                  by_cases hl : acc.length = 400
                  · have hl4 : n0 = 400 := by rw [HH.out.1]; exact hl
                    have HER := Hid.mk (tokAt_limit HTA.out hk HNB.out HFI.out hl)
                    have hn4 : (400 : Int) ≤ (n0 : Int) := by omega
                    have f0 := XF.out.cell 0 rfl
                    have f1 := XF.out.cell 1 rfl
                    have g0 := XF.out.fz 0
                    have g1 := XF.out.fz 1
                    have hzF := XF.out.lt
                    have HBE := Hid.mk (((bel_then HB0.out HBV.out).setCell (p := ⟨w.heap.size, 0, none⟩) (Nat.le_refl _) (.int .i64 4)).setCell (p := ⟨w.heap.size, 1, none⟩) (Nat.le_refl _) (.int .i64 (k : Nat)))
                    have HFX := Hid.mk ((XF.out.set 0 (.int .i64 4)).set 1 (.int .i64 (k : Nat)))
                    have z0 := HFX.out.cell 0 rfl
                    have z1 := HFX.out.cell 1 rfl
                    clear HFX hl hl4
                    obtain ⟨-, hk2, hK1N, hK10, -⟩ := HK.out; obtain ⟨-, q2, q3, -⟩ := HQ.out; have hm6 := HM6.out
                    go_wp2_with (first | (go_at_call 23; refine (low_any c _).mono ?_; rintro e wl ⟨rfl, hwl⟩; obtain rfl := hwl; rw [hlow]) | (go_at_call 24; refine (dig_any c _).mono ?_; rintro e wl ⟨rfl, hwl⟩; obtain rfl := hwl; rw [hdig]) | (go_at_call 25; refine HIN.out.mono ?_; rintro e wl ⟨rfl, hwl⟩; obtain rfl := hwl))
                    refine bodyPost_ret (v := .tuple #[.slice none 0 0, .agg #[.int .i64 4, .int .i64 (k : Nat)]]) (by simp [results, Tryz.results9, go_sem, z0, z1]) rfl ?_
                    refine ⟨HBE.out, ?_⟩
                    rw [HER.out]
                  · have hn4 : ¬ (400 : Int) ≤ (n0 : Int) := by have := HH.out.1; have := HLE.out; omega
                    have HTN := Hid.mk (tokAt_next HTA.out hk HNB.out HFI.out hl)
                    have hxt : (ba s).extract k J = ba ((s.drop k).take n) := (ext_ba s k J).trans (by rw [show J - k = n by omega])
                    obtain ⟨X, hX⟩ : ∃ x, S.extract k J = x := ⟨_, rfl⟩
                    have HXT : Hid (X = ba ((s.drop k).take n)) := Hid.mk (by rw [← hX, ← hS]; exact hxt)
                    have x0 := XK.out.cell 0 rfl
                    have x1 := XK.out.cell 1 rfl
                    have x2 := XK.out.cell 2 rfl
                    have y1 := XK.out.fz 1
                    have hzK := XK.out.lt
                    obtain ⟨V3, hV3⟩ : ∃ x, V.setCell ⟨wr.heap.size, 1, none⟩ (.string X) = x := ⟨_, rfl⟩
                    have XK3 : Hid (Box V3 wr.heap.size [.int .i64 3, .string X, .int .i64 (k : Nat)]) := Hid.mk (by rw [← hV3]; exact XK.out.set 1 _)
                    have HB3 : Hid (Below W0.heap.size W0 V3) := Hid.mk (by rw [← hV3]; exact HBV.out.setCell (p := ⟨wr.heap.size, 1, none⟩) HWR.out _)
                    have O3 : Hid ((V3.alloc (.cells #[.int .i64 3, .string X, .int .i64 (k : Nat)] 64)).ownsRow W0.heap.size 64 3 (.slice la n0 lc) n0 (rtkV acc)) := Hid.mk (by rw [← hV3]; exact (ownsRow_setCell_above HOV.out HNW.out _).alloc _)
                    have hsV3 := HB3.out.size
                    have c0 := XK3.out.cell 0 rfl
                    have c1 := XK3.out.cell 1 rfl
                    have c2 := XK3.out.cell 2 rfl
                    have HJ := Hid.mk (And.intro hnJ hkJ)
                    have HHL := Hid.mk HH.out.1
                    have HLL := Hid.mk HLE.out
                    clear hl hxt hnJ
                    obtain ⟨-, hk2, hK1N, hK10, -⟩ := HK.out; obtain ⟨-, q2, q3, -⟩ := HQ.out; have hm6 := HM6.out
                    go_wp2_with (first | (go_at_call 23; refine (low_any c _).mono ?_; rintro e wl ⟨rfl, hwl⟩; obtain rfl := hwl; rw [hlow]) | (go_at_call 24; refine (dig_any c _).mono ?_; rintro e wl ⟨rfl, hwl⟩; obtain rfl := hwl; rw [hdig]) | (go_at_call 25; refine HIN.out.mono ?_; rintro e wl ⟨rfl, hwl⟩; obtain rfl := hwl) | (at_builtin; refine wpList_append_own _ rfl _ _ 44 rfl W0.heap.size 64 i0 (.agg #[.int .i64 0, .string ⟨#[]⟩, .int .i64 0]) 3 32 Tryz.underlying44 hi hz0 hz1 hz2 rfl (by decide) _ _ _ rfl O3.out ⟨V3.heap.size, 0, none⟩ 1 1 [.int .i64 3, .string X, .int .i64 (k : Nat)] rfl rfl (news3 _ _ _ _ _ _ rfl) (one3t _ _ _) ?c3 ?c4 ?c5 ?_))
                    case c3 => skip; have := HHL.out; have := HLL.out; unfold maxLen; omega
                    case c4 => skip; have := HHL.out; have := HLL.out; omega
                    case c5 => skip; first | omega | (simp; omega)
                    intro v' w5 hown' hgrow _
                    have B5 := Hid.mk (show Below W0.heap.size W0 w5 from (HB3.out.alloc HB3.out.size _).grown hgrow (by have := HB3.out.size; simp; omega) (fun b hb => (O3.out.lt b hb).1))
                    have O5 : Hid (w5.ownsRow W0.heap.size 64 3 v' (n0 + 1) (rtkV (acc ++ [(2, (s.drop k).take n, k)]))) := Hid.mk (by rw [rtkV_app, ← HXT.out]; exact hown')
                    clear hown' hgrow
                    go_wp2
                    go_roundw
                    case rel => exact ⟨J, acc ++ [(2, (s.drop k).take n, k)], n0 + 1, hJN, rfl, O5.out, by rw [HH.out.1]; simp, B5.out, by rw [← HJ.out.1]; exact HTN.out⟩
                    case measure => skip; have := HJ.out.2; simp [intOf]; omega
            · have hqb : ((c.toNat : Int) == 39) = false := u8_ne hq
              as_aux_lemma =>
                have HFR := Hid.mk (rfirst_mark hk hlowS hdigS (by rw [hcs]; exact hq))
                clear hq
                obtain ⟨V, hV⟩ : ∃ x, V1.setCell ⟨wr.heap.size, 0, none⟩ (.int .i64 4) = x := ⟨_, rfl⟩
                have XK : Hid (Box V wr.heap.size [.int .i64 4, .string ⟨#[]⟩, .int .i64 (k : Nat)]) := Hid.mk (by rw [← hV]; exact XK1.out.set 0 _)
                have HBV : Hid (Below W0.heap.size W0 V) := Hid.mk (by rw [← hV]; exact HBV1.out.setCell (p := ⟨wr.heap.size, 0, none⟩) HWR.out _)
                have HOV : Hid (V.ownsRow W0.heap.size 64 3 (.slice la n0 lc) n0 (rtkV acc)) := Hid.mk (by rw [← hV]; exact ownsRow_setCell_above HO1.out HNW.out _)
                have XF : Hid (Box V w.heap.size [.int .i64 0, .int .i64 0]) := Hid.mk (XF0.out.below HBV.out)
                have t0 := XK1.out.cell 0 rfl
                have u0 := XK1.out.fz 0
                have hzT := XK1.out.lt

                obtain ⟨x, hx⟩ : ∃ x, s.drop k = x := ⟨_, rfl⟩
                have HX := Hid.mk hx
                obtain ⟨wq, hwq⟩ : ∃ y, y = wr := ⟨_, rfl⟩
                subst hwq
                go_wp2_with (first | (go_at_call 23; refine (low_any c _).mono ?_; rintro e wl ⟨rfl, hwl⟩; obtain rfl := hwl; rw [hlow]) | (go_at_call 24; refine (dig_any c _).mono ?_; rintro e wl ⟨rfl, hwl⟩; obtain rfl := hwl; rw [hdig]))
                clear t0 u0 hzT hV1
                go_loopw [7, 10] (fun kv nv wr => Aside (Below V.heap.size V wr) ∧ ((nv = .int .i64 2 ∧ kv = .int .i64 (k : Nat)) ∨ (nv = .int .i64 1 ∧ ((markB x 2 marksL = true ∧ kv = .int .i64 ((k + 2 : Nat) : Int)) ∨ (markB x 2 marksL = false ∧ kv = .int .i64 (k : Nat)))) ∨ (nv = .int .i64 0 ∧ markB x 2 marksL = false ∧ ((markB x 1 marksL = true ∧ kv = .int .i64 ((k + 1 : Nat) : Int)) ∨ (markB x 1 marksL = false ∧ kv = .int .i64 (k : Nat)))))) (fun _ nv _ => (intOf nv).toNat)
                case atStart => exact ⟨Below.refl _ _, Or.inl ⟨rfl, rfl⟩⟩
                case round =>
                  obtain ⟨HBM, hst⟩ := hrel
                  have HBA := Hid.mk (bel_then HB0.out (bel_then HBV.out HBM.out))
                  rcases hst with ⟨rfl, rfl⟩ | ⟨rfl, ⟨hm2, rfl⟩ | ⟨hm2, rfl⟩⟩ | ⟨rfl, hm2, ⟨hm1, rfl⟩ | ⟨hm1, rfl⟩⟩
                  · have HSP := Hid.mk (split_marks wr (HE.out.below HBA.out))
                    have hsN := HBM.out.size
                    go_wp2_with (first | (go_at_call 26; fail))
                    refine HSP.out.mono ?_
                    rintro e ws ⟨rfl, hws⟩
                    have HBN : Hid (Below V.heap.size V ws) := Hid.mk (by rw [hws]; exact HBM.out.alloc HBM.out.size _)
                    have HCL : Hid (∀ (j : Nat) (h : j < marksL.length), ws.cell? ⟨wr.heap.size, j, none⟩ = some (.string (ba marksL[j]))) := Hid.mk (by
                      intro j h
                      rw [hws]
                      have hB : Box (wr.alloc (.cells (marksL.map fun m => Value.string (ba m)).toArray 9)) wr.heap.size (marksL.map fun m => Value.string (ba m)) := Box.new wr _ _ _ rfl
                      exact hB.cell j (by rw [List.getElem?_map, List.getElem?_eq_getElem h]; rfl))
                    have hwl : wr.heap.size < ws.heap.size := by rw [hws]; simp
                    have HPR : Hid (∀ (j : Nat) (h : j < marksL.length), Calls Tryz.prog 27 #[.string (S.extract k N), .string (ba marksL[j])] ws fun e w' => e = .returned (.bool (marksL[j].isPrefixOf x)) ∧ w' = ws) := Hid.mk (by
                      intro j h
                      have := Tryz.strings_HasPrefix (S.extract k N) (ba marksL[j]) ws
                      rw [← hS, drop_tail HNE.out, ba_list, ba_list, HX.out] at this
                      rw [← hS]
                      rw [drop_tail HNE.out, HX.out]
                      exact this)
                    clear HSP hws
                    go_wp2
                    go_loop [7, 43] (fun kv i => ∃ (j K' : Nat), j ≤ 13 ∧ i = .int .i64 (j : Nat) ∧ kv = .int .i64 (K' : Nat) ∧ Aside (K' = if markB x 2 (marksL.take j) then k + 2 else k)) (fun _ i => 13 - (intOf i).toNat)
                    case atStart => exact ⟨0, k, Nat.zero_le _, rfl, rfl, rfl⟩
                    case round =>
                      obtain ⟨j, K', hj, rfl, rfl, HKK⟩ := hrel
                      by_cases hj13 : j < 13
                      · have hjm : j < marksL.length := hj13
                        have cj := HCL.out j hjm
                        have HPJ := Hid.mk (HPR.out j hjm)
                        have hms := markB_step x 2 j hjm
                        obtain ⟨M, hM⟩ : ∃ y, marksL[j] = y := ⟨_, rfl⟩
                        have hzM : (ba M).size = M.length := ba_size M
                        rw [hM] at cj HPJ hms
                        obtain ⟨lm, hlm⟩ : ∃ y, M.length = y := ⟨_, rfl⟩
                        rw [hlm] at hzM hms
                        have hjI : (j : Int) < 13 := by omega
                        have hj0 : (0 : Int) ≤ (j : Int) := by omega
                        by_cases hln : lm = 2
                        · cases hpf : M.isPrefixOf x with
                          | true =>
                            have HNX : Hid (k + 2 = if markB x 2 (marksL.take (j + 1)) then k + 2 else k) := Hid.mk (by rw [hms, hln, hpf]; simp)
                            rw [hpf] at HPJ
                            subst hln
                            generalize ba M = MB at *
                            clear hms hpf
                            go_wp2_with (first | (go_at_call 27; refine HPJ.out.mono ?_; rintro e wl ⟨rfl, hwl2⟩; obtain rfl := hwl2))
                            go_round
                            case rel => exact ⟨j + 1, k + 2, hj13, by go_num, by go_num, HNX.out⟩
                            case measure => simp [intOf]; omega
                          | false =>
                            have HNX : Hid (K' = if markB x 2 (marksL.take (j + 1)) then k + 2 else k) := Hid.mk (by rw [hms, hln, hpf, HKK.out]; simp)
                            rw [hpf] at HPJ
                            subst hln
                            generalize ba M = MB at *
                            clear hms hpf
                            go_wp2_with (first | (go_at_call 27; refine HPJ.out.mono ?_; rintro e wl ⟨rfl, hwl2⟩; obtain rfl := hwl2))
                            go_round
                            case rel => exact ⟨j + 1, K', hj13, by go_num, rfl, HNX.out⟩
                            case measure => simp [intOf]; omega
                        · have HNX : Hid (K' = if markB x 2 (marksL.take (j + 1)) then k + 2 else k) := Hid.mk (by rw [hms, decide_eq_false hln, HKK.out]; simp)
                          have hlb : ((lm : Int) == 2) = false := by simp; omega
                          generalize ba M = MB at *
                          clear hms
                          go_wp2
                          go_round
                          case rel => exact ⟨j + 1, K', hj13, by go_num, rfl, HNX.out⟩
                          case measure => simp [intOf]; omega
                      · obtain rfl : j = 13 := Nat.le_antisymm hj (Nat.le_of_not_lt hj13)
                        have HKE : Hid (K' = if markB x 2 marksL then k + 2 else k) := Hid.mk HKK.out
                        clear HKK
                        go_wp2
                        go_roundw
                        case rel =>
                          refine ⟨HBN.out, Or.inr (Or.inl ⟨rfl, ?_⟩)⟩
                          cases hmm : markB x 2 marksL with
                          | true => rw [hmm] at HKE; have := HKE.out; rw [if_pos rfl] at this; subst this; exact Or.inl ⟨rfl, rfl⟩
                          | false => rw [hmm] at HKE; have := HKE.out; rw [if_neg (by simp)] at this; subst this; exact Or.inr ⟨rfl, rfl⟩
                        case measure => simp [intOf]
                  · have HBV := Hid.mk (bel_then HBV.out HBM.out)
                    have XK := Hid.mk (XK.out.below HBM.out)
                    have XF := Hid.mk (XF.out.below HBM.out)
                    have HOV := Hid.mk (owns_below HOV.out HBM.out)

                    have hfi : firstL (s.drop k) = some (3, 2) := by
                      rw [HFR.out]
                      exact mark_first (by rw [HX.out, mark_len, hm2, if_pos rfl])
                    obtain ⟨n, hn⟩ : ∃ y, 2 = y := ⟨_, rfl⟩
                    obtain ⟨J, hJ⟩ : ∃ y, k + 2 = y := ⟨_, rfl⟩
                    rw [hn] at hfi
                    have HFI := Hid.mk hfi
                    have hnJ : k + n = J := by rw [← hn]; exact hJ
                    obtain ⟨hkJ, hJN⟩ := mark_J HNE.out hk hfi hnJ
                    rw [hJ]
                    clear hfi hJ hn
                    obtain ⟨a1, a2, a3, a4⟩ := ar_next hkJ hN hJN
                    have hJS : (J : Int) ≤ (S.size : Int) := by rw [hsz]; exact a3
                    by_cases hl : acc.length = 400
                    · have hl4 : n0 = 400 := by rw [HH.out.1]; exact hl
                      have HER := Hid.mk (tokAt_limit HTA.out hk HNB.out HFI.out hl)
                      have hn4 : (400 : Int) ≤ (n0 : Int) := by omega
                      have f0 := XF.out.cell 0 rfl
                      have f1 := XF.out.cell 1 rfl
                      have g0 := XF.out.fz 0
                      have g1 := XF.out.fz 1
                      have hzF := XF.out.lt
                      have HBE := Hid.mk (((bel_then HB0.out HBV.out).setCell (p := ⟨w.heap.size, 0, none⟩) (Nat.le_refl _) (.int .i64 4)).setCell (p := ⟨w.heap.size, 1, none⟩) (Nat.le_refl _) (.int .i64 (k : Nat)))
                      have HFX := Hid.mk ((XF.out.set 0 (.int .i64 4)).set 1 (.int .i64 (k : Nat)))
                      have z0 := HFX.out.cell 0 rfl
                      have z1 := HFX.out.cell 1 rfl
                      clear HFX hl hl4
                      go_wp2
                      refine bodyPost_ret (v := .tuple #[.slice none 0 0, .agg #[.int .i64 4, .int .i64 (k : Nat)]]) (by simp [results, Tryz.results9, go_sem, z0, z1]) rfl ?_
                      refine ⟨HBE.out, ?_⟩
                      rw [HER.out]
                    · have hn4 : ¬ (400 : Int) ≤ (n0 : Int) := by have := HH.out.1; have := HLE.out; omega
                      have HTN := Hid.mk (tokAt_next HTA.out hk HNB.out HFI.out hl)
                      have hxt : (ba s).extract k J = ba ((s.drop k).take n) := (ext_ba s k J).trans (by rw [show J - k = n by omega])
                      obtain ⟨X, hX⟩ : ∃ x, S.extract k J = x := ⟨_, rfl⟩
                      have HXT : Hid (X = ba ((s.drop k).take n)) := Hid.mk (by rw [← hX, ← hS]; exact hxt)
                      have x0 := XK.out.cell 0 rfl
                      have x1 := XK.out.cell 1 rfl
                      have x2 := XK.out.cell 2 rfl
                      have y1 := XK.out.fz 1
                      have hzK := XK.out.lt
                      obtain ⟨V3, hV3⟩ : ∃ x, wr.setCell ⟨wq.heap.size, 1, none⟩ (.string X) = x := ⟨_, rfl⟩
                      have XK3 : Hid (Box V3 wq.heap.size [.int .i64 4, .string X, .int .i64 (k : Nat)]) := Hid.mk (by rw [← hV3]; exact XK.out.set 1 _)
                      have HB3 : Hid (Below W0.heap.size W0 V3) := Hid.mk (by rw [← hV3]; exact HBV.out.setCell (p := ⟨wq.heap.size, 1, none⟩) HWR.out _)
                      have O3 : Hid ((V3.alloc (.cells #[.int .i64 4, .string X, .int .i64 (k : Nat)] 64)).ownsRow W0.heap.size 64 3 (.slice la n0 lc) n0 (rtkV acc)) := Hid.mk (by rw [← hV3]; exact (ownsRow_setCell_above HOV.out HNW.out _).alloc _)
                      have hsV3 := HB3.out.size
                      have c0 := XK3.out.cell 0 rfl
                      have c1 := XK3.out.cell 1 rfl
                      have c2 := XK3.out.cell 2 rfl
                      have HJ := Hid.mk (And.intro hnJ hkJ)
                      have HHL := Hid.mk HH.out.1
                      have HLL := Hid.mk HLE.out
                      clear hl hxt hnJ
                      go_wp2_with (first | (at_builtin; refine wpList_append_own _ rfl _ _ 44 rfl W0.heap.size 64 i0 (.agg #[.int .i64 0, .string ⟨#[]⟩, .int .i64 0]) 3 32 Tryz.underlying44 hi hz0 hz1 hz2 rfl (by decide) _ _ _ rfl O3.out ⟨V3.heap.size, 0, none⟩ 1 1 [.int .i64 4, .string X, .int .i64 (k : Nat)] rfl rfl (news3 _ _ _ _ _ _ rfl) (one3t _ _ _) ?c3 ?c4 ?c5 ?_))
                      case c3 => have := HHL.out; have := HLL.out; unfold maxLen; omega
                      case c4 => have := HHL.out; have := HLL.out; omega
                      case c5 => first | omega | (simp; omega)
                      intro v' w5 hown' hgrow _
                      have B5 := Hid.mk (show Below W0.heap.size W0 w5 from (HB3.out.alloc HB3.out.size _).grown hgrow (by have := HB3.out.size; simp; omega) (fun b hb => (O3.out.lt b hb).1))
                      have O5 : Hid (w5.ownsRow W0.heap.size 64 3 v' (n0 + 1) (rtkV (acc ++ [(3, (s.drop k).take n, k)]))) := Hid.mk (by rw [rtkV_app, ← HXT.out]; exact hown')
                      clear hown' hgrow
                      go_wp2
                      go_roundw
                      case rel => exact ⟨J, acc ++ [(3, (s.drop k).take n, k)], n0 + 1, hJN, rfl, O5.out, by rw [HH.out.1]; simp, B5.out, by rw [← HJ.out.1]; exact HTN.out⟩
                      case measure => have := HJ.out.2; simp [intOf]; omega
                  · have HSP := Hid.mk (split_marks wr (HE.out.below HBA.out))
                    have hsN := HBM.out.size
                    go_wp2_with (first | (go_at_call 26; fail))
                    refine HSP.out.mono ?_
                    rintro e ws ⟨rfl, hws⟩
                    have HBN : Hid (Below V.heap.size V ws) := Hid.mk (by rw [hws]; exact HBM.out.alloc HBM.out.size _)
                    have HCL : Hid (∀ (j : Nat) (h : j < marksL.length), ws.cell? ⟨wr.heap.size, j, none⟩ = some (.string (ba marksL[j]))) := Hid.mk (by
                      intro j h
                      rw [hws]
                      have hB : Box (wr.alloc (.cells (marksL.map fun m => Value.string (ba m)).toArray 9)) wr.heap.size (marksL.map fun m => Value.string (ba m)) := Box.new wr _ _ _ rfl
                      exact hB.cell j (by rw [List.getElem?_map, List.getElem?_eq_getElem h]; rfl))
                    have hwl : wr.heap.size < ws.heap.size := by rw [hws]; simp
                    have HPR : Hid (∀ (j : Nat) (h : j < marksL.length), Calls Tryz.prog 27 #[.string (S.extract k N), .string (ba marksL[j])] ws fun e w' => e = .returned (.bool (marksL[j].isPrefixOf x)) ∧ w' = ws) := Hid.mk (by
                      intro j h
                      have := Tryz.strings_HasPrefix (S.extract k N) (ba marksL[j]) ws
                      rw [← hS, drop_tail HNE.out, ba_list, ba_list, HX.out] at this
                      rw [← hS]
                      rw [drop_tail HNE.out, HX.out]
                      exact this)
                    clear HSP hws
                    go_wp2
                    go_loop [7, 43] (fun kv i => ∃ (j K' : Nat), j ≤ 13 ∧ i = .int .i64 (j : Nat) ∧ kv = .int .i64 (K' : Nat) ∧ Aside (K' = if markB x 1 (marksL.take j) then k + 1 else k)) (fun _ i => 13 - (intOf i).toNat)
                    case atStart => exact ⟨0, k, Nat.zero_le _, rfl, rfl, rfl⟩
                    case round =>
                      obtain ⟨j, K', hj, rfl, rfl, HKK⟩ := hrel
                      by_cases hj13 : j < 13
                      · have hjm : j < marksL.length := hj13
                        have cj := HCL.out j hjm
                        have HPJ := Hid.mk (HPR.out j hjm)
                        have hms := markB_step x 1 j hjm
                        obtain ⟨M, hM⟩ : ∃ y, marksL[j] = y := ⟨_, rfl⟩
                        have hzM : (ba M).size = M.length := ba_size M
                        rw [hM] at cj HPJ hms
                        obtain ⟨lm, hlm⟩ : ∃ y, M.length = y := ⟨_, rfl⟩
                        rw [hlm] at hzM hms
                        have hjI : (j : Int) < 13 := by omega
                        have hj0 : (0 : Int) ≤ (j : Int) := by omega
                        by_cases hln : lm = 1
                        · cases hpf : M.isPrefixOf x with
                          | true =>
                            have HNX : Hid (k + 1 = if markB x 1 (marksL.take (j + 1)) then k + 1 else k) := Hid.mk (by rw [hms, hln, hpf]; simp)
                            rw [hpf] at HPJ
                            subst hln
                            generalize ba M = MB at *
                            clear hms hpf
                            go_wp2_with (first | (go_at_call 27; refine HPJ.out.mono ?_; rintro e wl ⟨rfl, hwl2⟩; obtain rfl := hwl2))
                            go_round
                            case rel => exact ⟨j + 1, k + 1, hj13, by go_num, by go_num, HNX.out⟩
                            case measure => simp [intOf]; omega
                          | false =>
                            have HNX : Hid (K' = if markB x 1 (marksL.take (j + 1)) then k + 1 else k) := Hid.mk (by rw [hms, hln, hpf, HKK.out]; simp)
                            rw [hpf] at HPJ
                            subst hln
                            generalize ba M = MB at *
                            clear hms hpf
                            go_wp2_with (first | (go_at_call 27; refine HPJ.out.mono ?_; rintro e wl ⟨rfl, hwl2⟩; obtain rfl := hwl2))
                            go_round
                            case rel => exact ⟨j + 1, K', hj13, by go_num, rfl, HNX.out⟩
                            case measure => simp [intOf]; omega
                        · have HNX : Hid (K' = if markB x 1 (marksL.take (j + 1)) then k + 1 else k) := Hid.mk (by rw [hms, decide_eq_false hln, HKK.out]; simp)
                          have hlb : ((lm : Int) == 1) = false := by simp; omega
                          generalize ba M = MB at *
                          clear hms
                          go_wp2
                          go_round
                          case rel => exact ⟨j + 1, K', hj13, by go_num, rfl, HNX.out⟩
                          case measure => simp [intOf]; omega
                      · obtain rfl : j = 13 := Nat.le_antisymm hj (Nat.le_of_not_lt hj13)
                        have HKE : Hid (K' = if markB x 1 marksL then k + 1 else k) := Hid.mk HKK.out
                        clear HKK
                        go_wp2
                        go_roundw
                        case rel =>
                          refine ⟨HBN.out, Or.inr (Or.inr ⟨rfl, hm2, ?_⟩)⟩
                          cases hmm : markB x 1 marksL with
                          | true => rw [hmm] at HKE; have := HKE.out; rw [if_pos rfl] at this; subst this; exact Or.inl ⟨rfl, rfl⟩
                          | false => rw [hmm] at HKE; have := HKE.out; rw [if_neg (by simp)] at this; subst this; exact Or.inr ⟨rfl, rfl⟩
                        case measure => simp [intOf]
                  · have HBV := Hid.mk (bel_then HBV.out HBM.out)
                    have XK := Hid.mk (XK.out.below HBM.out)
                    have XF := Hid.mk (XF.out.below HBM.out)
                    have HOV := Hid.mk (owns_below HOV.out HBM.out)

                    have hfi : firstL (s.drop k) = some (3, 1) := by
                      rw [HFR.out]
                      exact mark_first (by rw [HX.out, mark_len, hm2, hm1, if_neg (by simp), if_pos rfl])
                    obtain ⟨n, hn⟩ : ∃ y, 1 = y := ⟨_, rfl⟩
                    obtain ⟨J, hJ⟩ : ∃ y, k + 1 = y := ⟨_, rfl⟩
                    rw [hn] at hfi
                    have HFI := Hid.mk hfi
                    have hnJ : k + n = J := by rw [← hn]; exact hJ
                    obtain ⟨hkJ, hJN⟩ := mark_J HNE.out hk hfi hnJ
                    rw [hJ]
                    clear hfi hJ hn
                    obtain ⟨a1, a2, a3, a4⟩ := ar_next hkJ hN hJN
                    have hJS : (J : Int) ≤ (S.size : Int) := by rw [hsz]; exact a3
                    by_cases hl : acc.length = 400
                    · have hl4 : n0 = 400 := by rw [HH.out.1]; exact hl
                      have HER := Hid.mk (tokAt_limit HTA.out hk HNB.out HFI.out hl)
                      have hn4 : (400 : Int) ≤ (n0 : Int) := by omega
                      have f0 := XF.out.cell 0 rfl
                      have f1 := XF.out.cell 1 rfl
                      have g0 := XF.out.fz 0
                      have g1 := XF.out.fz 1
                      have hzF := XF.out.lt
                      have HBE := Hid.mk (((bel_then HB0.out HBV.out).setCell (p := ⟨w.heap.size, 0, none⟩) (Nat.le_refl _) (.int .i64 4)).setCell (p := ⟨w.heap.size, 1, none⟩) (Nat.le_refl _) (.int .i64 (k : Nat)))
                      have HFX := Hid.mk ((XF.out.set 0 (.int .i64 4)).set 1 (.int .i64 (k : Nat)))
                      have z0 := HFX.out.cell 0 rfl
                      have z1 := HFX.out.cell 1 rfl
                      clear HFX hl hl4
                      go_wp2
                      refine bodyPost_ret (v := .tuple #[.slice none 0 0, .agg #[.int .i64 4, .int .i64 (k : Nat)]]) (by simp [results, Tryz.results9, go_sem, z0, z1]) rfl ?_
                      refine ⟨HBE.out, ?_⟩
                      rw [HER.out]
                    · have hn4 : ¬ (400 : Int) ≤ (n0 : Int) := by have := HH.out.1; have := HLE.out; omega
                      have HTN := Hid.mk (tokAt_next HTA.out hk HNB.out HFI.out hl)
                      have hxt : (ba s).extract k J = ba ((s.drop k).take n) := (ext_ba s k J).trans (by rw [show J - k = n by omega])
                      obtain ⟨X, hX⟩ : ∃ x, S.extract k J = x := ⟨_, rfl⟩
                      have HXT : Hid (X = ba ((s.drop k).take n)) := Hid.mk (by rw [← hX, ← hS]; exact hxt)
                      have x0 := XK.out.cell 0 rfl
                      have x1 := XK.out.cell 1 rfl
                      have x2 := XK.out.cell 2 rfl
                      have y1 := XK.out.fz 1
                      have hzK := XK.out.lt
                      obtain ⟨V3, hV3⟩ : ∃ x, wr.setCell ⟨wq.heap.size, 1, none⟩ (.string X) = x := ⟨_, rfl⟩
                      have XK3 : Hid (Box V3 wq.heap.size [.int .i64 4, .string X, .int .i64 (k : Nat)]) := Hid.mk (by rw [← hV3]; exact XK.out.set 1 _)
                      have HB3 : Hid (Below W0.heap.size W0 V3) := Hid.mk (by rw [← hV3]; exact HBV.out.setCell (p := ⟨wq.heap.size, 1, none⟩) HWR.out _)
                      have O3 : Hid ((V3.alloc (.cells #[.int .i64 4, .string X, .int .i64 (k : Nat)] 64)).ownsRow W0.heap.size 64 3 (.slice la n0 lc) n0 (rtkV acc)) := Hid.mk (by rw [← hV3]; exact (ownsRow_setCell_above HOV.out HNW.out _).alloc _)
                      have hsV3 := HB3.out.size
                      have c0 := XK3.out.cell 0 rfl
                      have c1 := XK3.out.cell 1 rfl
                      have c2 := XK3.out.cell 2 rfl
                      have HJ := Hid.mk (And.intro hnJ hkJ)
                      have HHL := Hid.mk HH.out.1
                      have HLL := Hid.mk HLE.out
                      clear hl hxt hnJ
                      go_wp2_with (first | (at_builtin; refine wpList_append_own _ rfl _ _ 44 rfl W0.heap.size 64 i0 (.agg #[.int .i64 0, .string ⟨#[]⟩, .int .i64 0]) 3 32 Tryz.underlying44 hi hz0 hz1 hz2 rfl (by decide) _ _ _ rfl O3.out ⟨V3.heap.size, 0, none⟩ 1 1 [.int .i64 4, .string X, .int .i64 (k : Nat)] rfl rfl (news3 _ _ _ _ _ _ rfl) (one3t _ _ _) ?c3 ?c4 ?c5 ?_))
                      case c3 => have := HHL.out; have := HLL.out; unfold maxLen; omega
                      case c4 => have := HHL.out; have := HLL.out; omega
                      case c5 => first | omega | (simp; omega)
                      intro v' w5 hown' hgrow _
                      have B5 := Hid.mk (show Below W0.heap.size W0 w5 from (HB3.out.alloc HB3.out.size _).grown hgrow (by have := HB3.out.size; simp; omega) (fun b hb => (O3.out.lt b hb).1))
                      have O5 : Hid (w5.ownsRow W0.heap.size 64 3 v' (n0 + 1) (rtkV (acc ++ [(3, (s.drop k).take n, k)]))) := Hid.mk (by rw [rtkV_app, ← HXT.out]; exact hown')
                      clear hown' hgrow
                      go_wp2
                      go_roundw
                      case rel => exact ⟨J, acc ++ [(3, (s.drop k).take n, k)], n0 + 1, hJN, rfl, O5.out, by rw [HH.out.1]; simp, B5.out, by rw [← HJ.out.1]; exact HTN.out⟩
                      case measure => have := HJ.out.2; simp [intOf]; omega
                  · have HBV := Hid.mk (bel_then HBV.out HBM.out)
                    have XK := Hid.mk (XK.out.below HBM.out)
                    have XF := Hid.mk (XF.out.below HBM.out)
                    have HOV := Hid.mk (owns_below HOV.out HBM.out)

                    have HER := Hid.mk (tokAt_none HTA.out hk HNB.out (by rw [HFR.out]; exact mark_noneF (by rw [HX.out, mark_len, hm2, hm1, if_neg (by simp), if_neg (by simp)])))
                    have f0 := XF.out.cell 0 rfl
                    have f1 := XF.out.cell 1 rfl
                    have g0 := XF.out.fz 0
                    have g1 := XF.out.fz 1
                    have hzF := XF.out.lt
                    have HBE := Hid.mk (((bel_then HB0.out HBV.out).setCell (p := ⟨w.heap.size, 0, none⟩) (Nat.le_refl _) (.int .i64 3)).setCell (p := ⟨w.heap.size, 1, none⟩) (Nat.le_refl _) (.int .i64 (k : Nat)))
                    have HFX := Hid.mk ((XF.out.set 0 (.int .i64 3)).set 1 (.int .i64 (k : Nat)))
                    have z0 := HFX.out.cell 0 rfl
                    have z1 := HFX.out.cell 1 rfl
                    clear HFX
                    go_wp2
                    refine bodyPost_ret (v := .tuple #[.slice none 0 0, .agg #[.int .i64 3, .int .i64 (k : Nat)]]) (by simp [results, Tryz.results9, go_sem, z0, z1]) rfl ?_
                    refine ⟨HBE.out, ?_⟩
                    rw [HER.out]
    · have hkE : k = N := Nat.le_antisymm hkN (Nat.le_of_not_lt hkl)
      have hkI : ¬ (k : Int) < (N : Int) := by omega
      have HEND : Hid (tokensL s = .ok (acc ++ [(4, [], N)])) := Hid.mk (by
        have h := HH.out.2.2
        rw [hkE, ← HNE.out] at h
        rw [← HNE.out]
        exact tokAt_end h)
      obtain ⟨la, lc, rfl⟩ := own_slice hown
      have HLE : Hid (n0 ≤ 400) := Hid.mk (by obtain ⟨g, -, -, h⟩ := HH.out.2.2; rw [HH.out.1]; exact h)
      have hbd : Below wr.heap.size wr wr.drew := (Below.refl _ _).drew
      have HOA : Hid ((wr.drew.alloc (.cells #[.int .i64 5, .string ⟨#[]⟩, .int .i64 (N : Nat)] 64)).ownsRow W0.heap.size 64 3 (.slice la n0 lc) n0 (rtkV acc)) := Hid.mk ((owns_below hown hbd).alloc _)
      have HBD : Hid (Below W0.heap.size W0 wr.drew) := Hid.mk HH.out.2.1.drew
      have HW := Hid.mk HH.out.2.1.size
      have XF : Hid (Box wr.drew w.heap.size [.int .i64 0, .int .i64 0]) := Hid.mk (XF0.out.below HBD.out)
      have HER := Hid.mk (HE.out.below (bel_then HB0.out HBD.out))
      have e0 := HER.out.f0
      have e1 := HER.out.f1
      have eG := HER.out.size 0 (by simp [refVars])
      have HXA : Hid (Box (wr.drew.alloc (.cells #[.int .i64 5, .string ⟨#[]⟩, .int .i64 (N : Nat)] 64)) w.heap.size [.int .i64 0, .int .i64 0]) := Hid.mk (XF.out.below (below_box _ _))
      have HNO : Hid (∀ g, g ≤ w.heap.size → some g ≠ (Value.slice la n0 lc).ownBlock) := Hid.mk fun g hg e => by
        have := (HOA.out.lt g e.symm).1
        have := HS0.out
        omega
      have HEA := Hid.mk (HER.out.below (below_box wr.drew (.cells #[.int .i64 5, .string ⟨#[]⟩, .int .i64 (N : Nat)] 64)))
      have HEG := Hid.mk HE.out.size
      have hEW := HE.out.below (bel_then HB0.out HH.out.2.1)
      have hEB := hEW.below (below_box wr (.cells #[.int .i64 5, .string ⟨#[]⟩, .int .i64 (N : Nat)] 64))
      have ea0 := hEB.f0
      have ea1 := hEB.f1
      have eb0 := hEW.f0
      have eb1 := hEW.f1
      have ebG := hEW.size 0 (by simp [refVars])
      clear hEW hEB
      have HWW : Hid (w.heap.size ≤ W0.heap.size) := Hid.mk (by have := HS0.out; omega)
      have HWL : Hid (w.heap.size < W0.heap.size) := Hid.mk (by have := HS0.out; omega)
      clear hown hkE hbd
      go_wp2
      go_region_law (first | (refine step_append_own (by rfl) _ _ _ (by rfl) W0.heap.size 64 i0 _ 3 32 Tryz.underlying44 hi hz0 hz1 hz2 rfl (by decide) (.slice la n0 lc) n0 _ (by rfl) HOA.out ⟨wr.drew.heap.size, 0, none⟩ 1 1 [.int .i64 5, .string ⟨#[]⟩, .int .i64 (N : Nat)] (by rfl) rfl (news3 _ _ _ _ _ _ rfl) (one3t _ _ _) (by have := HLE.out; unfold maxLen; omega) (by have := HLE.out; omega) (by have := HW.out; simp; omega) ?_; intro v7 w7 ho7 hg7 _; have HO7 := Hid.mk ho7; have HG7 := Hid.mk hg7; have X7 := HXA.out.block (hg7.block _ HXA.out.lt (HNO.out _ (Nat.le_refl _))); have XF7 := Hid.mk X7; have f0 := X7.cell 0 rfl; have f1 := X7.cell 1 rfl; have h0 := X7.fz 0; have h1 := X7.fz 1; have hz7 := X7.lt; have HR7 := HEA.out.blocks hg7.size (fun g hg => hg7.block g (HEA.out.size g hg) (HNO.out g (Nat.le_of_lt (HEG.out g hg)))); have k0 := HR7.f0; have k1 := HR7.f1; have kG := HR7.size 0 (by simp [refVars]); clear ho7 hg7 X7 HR7))
      all_goals
        have HBX := Hid.mk ((XF7.out.set 0 (.int .i64 0)).set 1 (.int .i64 (-1)))
        have z0 := HBX.out.cell 0 rfl
        have z1 := HBX.out.cell 1 rfl
        have HB7 : Hid (Below W0.heap.size W0 w7) := Hid.mk ((HBD.out.alloc HBD.out.size _).grown HG7.out (by have := HBD.out.size; simp; have := HW.out; omega) (fun b hb => (HOA.out.lt b hb).1))
        clear HBX k0 k1 kG f0 f1 h0 h1 hz7 e0 e1 eG ea0 ea1 eb0 eb1 ebG
        go_wp2
        refine bodyPost_ret (v := .tuple #[v7, .agg #[.int .i64 0, .int .i64 (-1)]]) (by simp [results, Tryz.results9, go_sem, z0, z1]) rfl ?_
        refine ⟨((bel_then HB0.out HB7.out).setCell (p := ⟨w.heap.size, 0, none⟩) (Nat.le_refl _) _).setCell (p := ⟨w.heap.size, 1, none⟩) (Nat.le_refl _) _, ?_⟩
        rw [HEND.out]
        refine ⟨v7, rfl, ?_⟩
        have h7 := own_mono HWW.out (ownsRow_setCell_off (i := 1) (ownsRow_setCell_off (i := 0) HO7.out HWL.out (.int .i64 0)) HWL.out (.int .i64 (-1)))
        rw [rtkV_app, List.length_append, List.length_singleton, ← HH.out.1]
        exact h7
end Go.Proofs.YtedflhiflomoeaaGreatDoor
