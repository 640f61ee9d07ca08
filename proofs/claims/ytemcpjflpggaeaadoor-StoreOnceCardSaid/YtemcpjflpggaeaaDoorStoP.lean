import Derived.Test.YtemcpjflpggaeaaDoorStoO
import Derived.Test.YtemcpjflpggaeaaDoorDskF
set_option linter.unusedSimpArgs false
set_option linter.unusedVariables false
namespace Go.Proofs.YtemcpjflpggaeaaDoor.Dk
open Go.RowKit Go.Maps

theorem ba_tx (s : ByteArray) : tx s.data.toList = s := rfl
theorem Live.fused {W w w' : World} {D S X M n B : Nat} {vw kv : Value} {d : St} {ts : List Bs} {e : Nat} (h : Live W w D S X M n B vw kv d ts e) {f : Int} (ha : At w' D S vw ⟨d.sure, d.ws, f⟩) (hk : Keep [D] w w') : Live W w' D S X M n B vw kv ⟨d.sure, d.ws, f⟩ ts e := by
  refine ⟨h.mem.mv hk (fun b hb => by simp; intro q; exact h.dis b hb (by simp [blocks, q])), ha, ?_, h.dis, Nat.le_trans h.hB hk.size, h.keep.then hk (fun y hy => Or.inr (h.new y (by simp at hy; subst hy; simp [blocks]))), h.new, h.few⟩
  have i := h.inv
  exact ⟨i.ws, i.laid, i.zero, i.cov, i.short, i.once, i.le, i.two⟩
theorem lst_ne {W w : World} {v : Value} {xs : List Value} {S : Nat} (h : Lst W v xs) (hS : W.heap.size ≤ S) : xs = [] ∨ v.ownBlock ≠ some S := by
  obtain ⟨a, c, rfl, h | ⟨b, o, rfl, hb, -⟩⟩ := h
  · exact Or.inl h
  · right
    simp [Value.ownBlock]
    omega
theorem nsec_room {e i n k : Nat} (he : e ≤ 2 + 6 * i) (hi : i < n) (hn : ¬ 15 < n) (hk : k ≤ 6) : e + k ≤ 600 ∧ e + k ≤ 2 + 6 * (i + 1) := by omega
theorem keyS_snoc (ts : List Bs) (t : Bs) : keyS (ts ++ [t]) = keyS ts ++ [tx (sumL t)] := by simp [keyS]
theorem key_at (l : List Bs) (i : Nat) (h : i < l.length) : (st (keyS l))[i]? = some (.string (tx (sumL l[i]))) := by simp [st, keyS, h]
theorem key_mem {ts : List Bs} {t : Bs} : tx (sumL t) ∈ keyS ts ↔ sumL t ∈ ts.map sumL := by
  unfold keyS
  simp only [List.mem_map]
  constructor
  · rintro ⟨u, hu, q⟩
    exact ⟨u, hu, congrArg (fun z : ByteArray => z.data.toList) q⟩
  · rintro ⟨u, hu, q⟩
    exact ⟨u, hu, by rw [q]⟩
/-- slices.Contains over texts of the call's own. -/
theorem contains_any {w : World} {B : Nat} {v : Value} {l : List ByteArray} (x : ByteArray) (h : w.ownsRow B 9 1 v l.length (st l)) (hl : l.length ≤ 1000) :
    Calls Tryd.prog 18 #[v, .string x] w fun e w' => ∃ r : Bool, e = .returned (.bool r) ∧ (r = true ↔ x ∈ l) ∧ w' = w := by
  by_cases hz : l.length = 0
  · obtain ⟨a, c, rfl, -⟩ := own_form h
    have : l = [] := List.length_eq_zero_iff.1 hz
    subst this
    refine (Tryd.slices_Contains_string_empty a c x w).mono ?_
    rintro e w' ⟨rfl, rfl⟩
    exact ⟨false, rfl, by simp, rfl⟩
  · obtain ⟨g, cap, rfl, -, hgl⟩ := h.form (by omega)
    have hr := own_cells h
    refine (Tryd.slices_Contains_string g 0 l.length cap l x w (Nat.le_refl _) (by omega) (fun j hj => by
      have := hr j (.string (l.getD j ByteArray.empty)) (by simp [st, hj])
      exact this)).mono ?_
    rintro e w' ⟨rfl, rfl⟩
    refine ⟨_, rfl, ?_, rfl⟩
    rw [List.take_of_length_le (Nat.le_refl _)]
    exact Lib.containsS_iff l x
theorem Own.below {W w w' : World} {v : Value} {ts : List Bs} {X M D S : Nat} {kv vw : Value} (h : Own W w v ts X M D S kv vw) (hb : Below w.heap.size w w') : Own W w' v ts X M D S kv vw := ⟨own_keep h.row (Keep.of (X := []) hb) (by simp), h.off⟩
theorem Own.put {W w w' : World} {v : Value} {ts : List Bs} {X M D S n B : Nat} {kv vw kv' : Value} {d : St} {e : Nat} (h : Own W w v ts X M D S kv vw) (hl : Live W w D S X M n B vw kv d ts e) (hk : Keep (memB X M kv ++ blocks D S vw) w w') (hv : kv'.ownBlock = kv.ownBlock ∨ ∃ g, kv'.ownBlock = some g ∧ w.heap.size ≤ g) : Own W w' v ts X M D S kv' (.slice none 0 0) := by
  refine ⟨own_keep h.row hk h.off, fun b hb hq => ?_⟩
  have hlt := own_lt h.row hb
  have hno := h.off b hb
  simp only [List.mem_append, memB, blocks, List.mem_cons, Option.mem_toList, not_or] at hq hno
  rcases hq with (q | q | q) | (q | q | q)
  · exact hno.1.1 q
  · exact hno.1.2.1 q
  · rcases hv with r | ⟨g, r, hg⟩
    · exact hno.1.2.2 (r ▸ q)
    · rw [r] at q
      injection q with q
      omega
  · exact hno.2.1 q
  · exact hno.2.2.1 q
  · simp [Value.ownBlock] at q
/-- One text more in such a list. -/
theorem own_snoc {W w w8 : World} {ts : List Bs} {t : Bs} {X M D S n B : Nat} {kv vw pp : Value} {d : St} {us : List Bs} {e gg cap : Nat} (h : Own W w pp ts X M D S kv vw) (hl : Live W w D S X M n B vw kv d us e)
    (hown : w8.ownsRow W.heap.size 9 1 (.slice (some ⟨gg, 0, none⟩) (ts.length + 1) cap) (ts.length + 1) (st (keyS ts) ++ [.string (tx (sumL t))])) (hgrow : (w.alloc (.cells #[.string (tx (sumL t))] 9)).grownBy w8 pp.ownBlock) (hat : pp.ownBlock = some gg ∨ gg = w.heap.size + 1) :
    Own W w8 (.slice (some ⟨gg, 0, none⟩) (ts.length + 1) cap) (ts ++ [t]) X M D S kv vw ∧ Live W w8 D S X M n B vw kv d us e := by
  have hal := (Below.refl w.heap.size w).alloc (Nat.le_refl _) (.cells #[.string (tx (sumL t))] 9)
  have hml := hl.mem.mem_lt
  have hdl := hl.disk.blocks_lt
  have hws := hl.keep.size
  have hk : Keep pp.ownBlock.toList w w8 := (Keep.of (X := pp.ownBlock.toList) hal).grown hgrow (fun r hr => Or.inl (by simp [hr]))
  have hoff : ∀ b ∈ pp.ownBlock.toList, b ∉ memB X M kv ++ blocks D S vw := fun b hb => h.off b (by simpa using hb)
  refine ⟨⟨?_, fun b hb hq => ?_⟩, ⟨hl.mem.mv hk (fun b hb hq => hoff b hq (List.mem_append_left _ hb)), hl.disk.keep hk (fun b hb hq => hoff b hq (List.mem_append_right _ hb)), hl.inv, hl.dis, Nat.le_trans hl.hB hk.size, hl.keep.then hk (fun y hy => Or.inr ((lst_own h.row).2 y (by simpa using hy)).1), hl.new, hl.few⟩⟩
  · rw [keyS_snoc, List.length_append, List.length_singleton]
    have : st (keyS ts ++ [tx (sumL t)]) = st (keyS ts) ++ [.string (tx (sumL t))] := by simp [st]
    rw [this]
    exact hown
  · simp only [Value.ownBlock, Option.some.injEq] at hb
    subst hb
    rcases hat with q | q
    · exact h.off _ q hq
    · rcases List.mem_append.1 hq with r | r
      · have := hml _ r; omega
      · have := hdl _ r; omega
set_option maxRecDepth 100000 in
set_option maxHeartbeats 8000000 in
theorem holds_any (v0 v2 : Value) (fz : Int) (l : List ByteArray) (ks : List Bool) (W : World) (h0 : Lst W v0 (st l)) (h2 : Lst W v2 (bl ks)) (hls : ∀ x ∈ l, x.size ≤ maxLen) (hE : EnvK W)
    (hg : W.cell? ⟨0, 0, none⟩ = some (.iface 139 (.agg #[.pointer (some ⟨5, 30, none⟩)]))) :
    Calls Tryd.prog 5 #[v0, .int .i64 fz, v2] W fun e w' => e = .returned (.bool true) ∧ Below W.heap.size W w' := by
  have L0 := hid h0
  have L2 := hid h2
  obtain ⟨a0, c0, rfl, -⟩ := h0
  obtain ⟨a2, c2, rfl, -⟩ := h2
  have hb2 : (bl ks).length = ks.length := by simp [bl]
  rw [st_len] at L0 ⊢
  rw [hb2] at L2 ⊢
  obtain ⟨n, hn⟩ : ∃ n, l.length = n := ⟨_, rfl⟩
  obtain ⟨q, hq⟩ : ∃ q, ks.length = q := ⟨_, rfl⟩
  have HN := hid hn
  have HQ := hid hq
  rw [hn] at L0 ⊢
  rw [hq] at L2 ⊢
  have HG := hid hg
  have HE := hid hE
  clear hn hq hb2 hg
  by_cases g1 : 15 < n
  · have g1I : (15 : Int) < (n : Int) := by omega
    go_enter Tryd.func5, Tryd.ntmps5
    go_wp2
    go_ret
    exact ⟨rfl, Below.refl _ _⟩
  by_cases g4 : 100 < q
  · have g4I : (100 : Int) < (q : Int) := by omega
    have q1 : decide ((15 : Int) < (n : Int)) = false := by simp; omega
    go_enter Tryd.func5, Tryd.ntmps5
    go_wp2
    go_ret
    exact ⟨rfl, Below.refl _ _⟩
  have q1 : decide ((15 : Int) < (n : Int)) = false := by simp; omega
  have q4 : decide ((100 : Int) < (q : Int)) = false := by simp; omega
  have HH := hid (has_holds _ l W L0.out (by rw [HN.out]; omega) hls)
  cases hany : l.any long3 with
  | true =>
    rw [hany] at HH
    go_enter Tryd.func5, Tryd.ntmps5
    go_wp2_with (first | (go_at_call 7; refine HH.out.mono ?_; rintro e w1 ⟨rfl, hb1⟩))
    go_ret
    exact ⟨rfl, hb1⟩
  | false =>
    rw [hany] at HH
    have HS : Hid (∀ x ∈ l, x.size ≤ 300) := hid (fun x hx => by
      have := List.any_eq_false.1 hany x hx
      simpa [long3] using this)
    clear hany
    go_enter Tryd.func5, Tryd.ntmps5
    go_wp2_with (first | (go_at_call 7; refine HH.out.mono ?_; rintro e w1 ⟨rfl, hb1⟩; have HB1 := hid hb1; have HST := hid (stored_any w1 (HE.out.below hb1)); clear hb1) | (go_at_call 22; refine HST.out.mono ?_; rintro e w2 ⟨rfl, hb2⟩; have HB2 := hid (HB1.out.trans (hb2.mono HB1.out.size)); have HNW := hid (new_any 600 w2 (by omega) (by omega)); clear hb2) | (go_at_call 9; refine HNW.out.mono ?_; rintro e w3 ⟨D, S, rfl, a3, b3, hD, hS⟩; have M3 := hid (show Mine W w3 D S _ (newD 600) from mine_new a3 (HB2.out.trans (b3.mono HB2.out.size)) (Nat.le_trans HB2.out.size hD) (Nat.le_trans HB2.out.size hS)); clear a3 b3 hD hS) | (go_at_call 23; fail))
    have hl6 : (newD 600).sure.length = 600 := by simp [newD]
    have HO := hid (M3.out.open HE.out (inv_new 600 (by omega)) rfl (by rw [hl6]; decide))
    refine HO.out.mono ?_
    rintro e4 w4 ⟨X, M, n4, B, kv, rfl, l4, -, -⟩
    have LV4 := hid l4
    clear l4 HO HNW HST
    have HPK := hid pick60
    have HFU := hid (fun (V : World) (k : Nat) (hk : k < 60) (hV : At V D S (.slice none 0 0) (newD 600)) => fuse_any D S _ (newD 600) (k : Int) V hV (by omega) (by omega))
    go_wp2_with (first | (go_at_call 13; refine (HPK.out _ _).mono ?_; rintro e5 w5 ⟨fk, rfl, hfk, rfl⟩) | (go_at_call 32; refine (HFU.out _ fk hfk LV4.out.disk).mono ?_; rintro e6 w6 ⟨rfl, a6, k6, -⟩; have LV6 := hid (LV4.out.fused a6 k6); clear a6 k6))
    clear HPK HFU LV4 HH
    have hl7 : (⟨(newD 600).sure, (newD 600).ws, (fk : Int)⟩ : St).sure.length = 600 := hl6
    have O6 : Hid (Own W w6 (.slice none 0 0) [] X M D S kv (.slice none 0 0)) := hid ⟨World.ownsRow_nil _ _ _ _, by simp [Value.ownBlock]⟩
    go_loopw [10, 11] (fun pp pi wr => ∃ (i n' : Nat) (vw kv : Value) (d : St) (ts : List Bs) (e : Nat), pi = .int .i64 (i : Int) ∧ i ≤ n ∧ Live W wr D S X M n' B vw kv d ts e ∧ Own W wr pp ts X M D S kv vw ∧ d.sure.length = 600 ∧ e ≤ 2 + 6 * i ∧ ts.length ≤ i) (fun pp pi wr => n - (intOf pi).toNat)
    case atStart => exact ⟨0, n4, _, _, _, [], 2, rfl, Nat.zero_le _, LV6.out, O6.out, hl7, Nat.le_refl _, Nat.le_refl _⟩
    case round =>
      obtain ⟨i, n', vw, kv', d, ts, e, rfl, hin, hlv, hown, hd6, he, htl⟩ := hrel
      have LV := hid hlv
      have OW := hid hown
      obtain ⟨pa, pc, hpf, -⟩ := own_form hown.row
      subst hpf
      have HD6 := hid hd6
      clear hlv hown hd6 O6 LV6 hl7
      by_cases hlt : i < n
      · have hi2 : i < l.length := by rw [HN.out]; exact hlt
        have hL0 := L0.out.keep LV.out.keep (by simp)
        obtain ⟨-, b0, o0, ha0, hb0, hr0⟩ := hL0.at (Nat.lt_of_le_of_lt (Nat.zero_le _) hlt)
        subst ha0
        have HF : Hid (∀ V : World, Keep [] W V → V.cell? ⟨b0, o0 + i, none⟩ = some (.string l[i])) := hid (fun V hV => by
          obtain ⟨-, b', o', e', hbW, hrW⟩ := L0.out.at (Nat.lt_of_le_of_lt (Nat.zero_le _) hlt)
          injection e' with e'
          injection e' with q1 q2
          subst q1
          subst q2
          rw [World.cell?_of_block (hV.block b0 hbW (by simp))]
          exact hrW i _ (st_at l i hi2))
        have f2 := hr0 i _ (st_at l i hi2)
        obtain ⟨s, hs⟩ : ∃ s, l[i] = s := ⟨_, rfl⟩
        rw [hs] at f2 HF
        have hs3 : s.size ≤ 300 := HS.out s (by rw [← hs]; exact List.getElem_mem hi2)
        obtain ⟨t, htt⟩ : ∃ t : Bs, s.data.toList = t := ⟨_, rfl⟩
        have hts : tx t = s := by rw [← htt]; rfl
        have htl3 : t.length ≤ 300 := by rw [← tx_sz, hts]; exact hs3
        obtain ⟨hr1, hr2⟩ := nsec_room he hlt g1 (nsec_le htl3)
        have HP := hid (live_call LV.out HE.out t htl3 (by rw [HD6.out]; exact hr1) (by rw [HD6.out]; decide) (by omega))
        rw [hts] at HP
        have HR2 := hid hr2
        have HR1 := hid hr1
        have HTS := hid hts
        have hiI : (i : Int) < (n : Int) := by omega
        have HL0 := hid L0.out
        clear hr0 hL0 hs htt hts hr1 hr2
        go_wp2_with (first | (go_at_call 24; fail))
        refine HP.out.mono ?_
        rintro e7 w7 ⟨v7, rfl, hput⟩
        clear HP
        cases hput with
        | there hin b =>
          have L7 := hid (LV.out.below b)
          have O7 := hid (OW.out.below b)
          have f7 : w7.cell? ⟨b0, o0 + i, none⟩ = some (.string s) := by rw [b.cell (p := ⟨b0, o0 + i, none⟩) hb0]; exact f2
          have HSU := hid (sum_any s w7 (by omega) (env_keep HE.out L7.out.keep))
          have hkx : (⟨(sumL s.data.toList).toArray⟩ : ByteArray) = tx (sumL t) := by rw [← HTS.out]; rfl
          rw [hkx] at HSU
          have HCT : Hid (∀ V, Below w7.heap.size w7 V → Calls Tryd.prog 18 #[.slice pa ts.length pc, .string (tx (sumL t))] V fun e w' => e = .returned (.bool true) ∧ w' = V) := hid (fun V hV => by
            have hrow := (O7.out.below hV).row
            rw [← keyS_len ts] at hrow ⊢
            refine (contains_any (tx (sumL t)) hrow (by rw [keyS_len]; omega)).mono ?_
            rintro e w' ⟨r, rfl, hr, rfl⟩
            rw [hr.2 (key_mem.2 hin)]
            exact ⟨rfl, rfl⟩)
          obtain ⟨kx, hkk⟩ : ∃ kx, tx (sumL t) = kx := ⟨_, rfl⟩
          rw [hkk] at HSU HCT ⊢
          have HBB := hid b
          clear hkx hkk b hin
          go_wp2_with (first | (go_at_call 28; refine HSU.out.mono ?_; rintro e8 w8 ⟨rfl, hb8⟩; have HB8 := hid hb8; clear hb8) | (go_at_call 18; refine (HCT.out _ HB8.out).mono ?_; rintro e9 w9 ⟨rfl, rfl⟩))
          go_roundw
          case rel => exact ⟨i + 1, n', vw, kv', d, ts, e, by go_num, hlt, L7.out.below HB8.out, O7.out.below HB8.out, HD6.out, by omega, by omega⟩
          case measure => simp [intOf]; omega
        | put hin kv7 m a k v =>
          have hfew := LV.out.few
          have L7 := hid (LV.out.put htl3 hin (by rw [HD6.out]; exact HR1.out) m a k v)
          have O7 := hid (OW.out.put LV.out k v)
          have f7 := HF.out w7 L7.out.keep
          have hd7 : ((wrN d t e (nsec t)).burnt.settled allK).sure.length = 600 := by rw [len_after]; exact HD6.out
          have HSU := hid (sum_any s w7 (by omega) (env_keep HE.out L7.out.keep))
          have hkx : (⟨(sumL s.data.toList).toArray⟩ : ByteArray) = tx (sumL t) := by rw [← HTS.out]; rfl
          rw [hkx] at HSU
          have HCT : Hid (∀ V, Below w7.heap.size w7 V → Calls Tryd.prog 18 #[.slice pa ts.length pc, .string (tx (sumL t))] V fun e w' => e = .returned (.bool false) ∧ w' = V) := hid (fun V hV => by
            have hrow := (O7.out.below hV).row
            rw [← keyS_len ts] at hrow ⊢
            refine (contains_any (tx (sumL t)) hrow (by rw [keyS_len]; omega)).mono ?_
            rintro e w' ⟨r, rfl, hr, rfl⟩
            have hrf : r = false := by
              cases r with
              | false => rfl
              | true => exact absurd (key_mem.1 (hr.1 rfl)) hin
            rw [hrf]
            exact ⟨rfl, rfl⟩)
          have HSN : Hid (∀ (V w9 : World) (gg cap : Nat), Below w7.heap.size w7 V → w9.ownsRow W.heap.size 9 1 (.slice (some ⟨gg, 0, none⟩) (ts.length + 1) cap) (ts.length + 1) (st (keyS ts) ++ [.string (tx (sumL t))]) → (V.alloc (.cells #[.string (tx (sumL t))] 9)).grownBy w9 (Value.slice pa ts.length pc).ownBlock → ((Value.slice pa ts.length pc).ownBlock = some gg ∨ gg = V.heap.size + 1) → Own W w9 (.slice (some ⟨gg, 0, none⟩) (ts.length + 1) cap) (ts ++ [t]) X M D S kv7 (.slice none 0 0) ∧ Live W w9 D S X M (n' + 1) B (.slice none 0 0) kv7 ((wrN d t e (nsec t)).burnt.settled allK) (ts ++ [t]) (e + nsec t)) := hid (fun V w9 gg cap hV q1 q2 q3 => own_snoc (O7.out.below hV) (L7.out.below hV) q1 q2 q3)
          obtain ⟨kx, hkk⟩ : ∃ kx, tx (sumL t) = kx := ⟨_, rfl⟩
          rw [hkk] at HSU HCT HSN ⊢
          obtain ⟨i0, hi0, hz0, hz1, hz2⟩ := info_parts info_str
          have HM1 : Hid (ts.length + 1 ≤ maxLen) := hid (len_max (by omega))
          have HM2 : Hid ((ts.length + 1) * 16 ≤ 140737488355328) := hid (len_bytes (by omega))
          have HD7 := hid hd7
          have HWL : Hid (W.heap.size ≤ w7.heap.size) := hid L7.out.keep.size
          clear hkx hkk hin m a k v hd7 hfew
          go_wp2_with (first | (go_at_call 28; refine HSU.out.mono ?_; rintro e8 w8 ⟨rfl, hb8⟩; have HB8 := hid hb8; have OWA := hid ((O7.out.below hb8).below ((Below.refl w8.heap.size w8).alloc (Nat.le_refl _) (.cells #[.string kx] 9))).row; have HNW := hid (news1 w8 (.string kx) 9 _ rfl); have HM3 : Hid (W.heap.size ≤ (w8.alloc (.cells #[.string kx] 9)).heap.size) := hid (Nat.le_trans HWL.out (Nat.le_trans hb8.size (by simp))); clear hb8) | (go_at_call 18; refine (HCT.out _ HB8.out).mono ?_; rintro e9 w9 ⟨rfl, rfl⟩) | (at_builtin; refine wpList_append_lies _ (by rfl) _ _ _ (by rfl) W.heap.size 9 i0 _ 1 16 Tryd.underlying22 hi0 hz0 hz1 hz2 rfl (by decide) (.slice pa ts.length pc) ts.length _ (by rfl) OWA.out ⟨_, 0, none⟩ 1 1 [.string kx] (by rfl) (by rfl) HNW.out (one1t _) (by decide) HM1.out HM2.out HM3.out _ (World.size_alloc _ _) ?_; intro gg cap wq ho hgr hat hlt9; have HS9 := hid (HSN.out _ wq gg cap HB8.out ho hgr hat); clear ho hgr hat hlt9))
          go_roundw
          case rel => exact ⟨i + 1, n' + 1, _, kv7, _, ts ++ [t], e + nsec t, by go_num, hlt, HS9.out.2, HS9.out.1, HD7.out, HR2.out, by rw [List.length_append, List.length_singleton]; omega⟩
          case measure => simp [intOf]; omega
        | dead hin vw7 j hj hd a k v =>
          have hk7 := LV.out.keep.then k (fun y hy => Or.inr (LV.out.new y (List.mem_append_right _ hy)))
          have hlvs := LV.out.keep.size
          have ME7 := hid (show Mine W w7 D S vw7 (wrN d t e j).burnt from ⟨a, hk7, fun b hb => (v b hb).elim (fun r => LV.out.new b (List.mem_append_right _ r)) (fun r => Nat.le_trans hlvs r)⟩)
          have CR := hid (cr_dead LV.out.inv HD6.out t htl3 hin j hj (by rw [HD6.out]; exact HR1.out))
          have RW7 := hid (own_keep OW.out.row k (fun b hb hq => OW.out.off b hb (List.mem_append_right _ hq)))
          have ND : Hid (∀ b, (Value.slice pa ts.length pc).ownBlock = some b → b ≠ D ∧ b ≠ S) := hid (fun b hb => ⟨fun z => OW.out.off b hb (by simp [blocks, z]), fun z => OW.out.off b hb (by simp [blocks, z])⟩)
          have hg7 : w7.cell? ⟨0, 0, none⟩ = _ := (World.cell?_of_block (hk7.block 0 (World.block_lt_of_cell? W ⟨0, 0, none⟩ HG.out) (by simp))).trans HG.out
          have HTL := hid (tell_any 14 w7 hg7)
          obtain ⟨dD, hdD⟩ : ∃ dD, (wrN d t e j).burnt = dD := ⟨_, rfl⟩
          rw [hdD] at ME7 CR
          clear a k v hk7 hlvs hin hj hd hg7 hdD
          go_wp2_with (first | (go_at_call 30; refine HTL.out.mono ?_; rintro e8 w8 ⟨rfl, hb8⟩; have ME := hid (ME7.out.below hb8); have RW := hid (own_keep RW7.out (Keep.of (X := []) hb8) (by simp)); clear hb8) | (go_at_call 17; fail))
          have hcr := CR.out.2 (keptL ks)
          obtain ⟨hheads, us, e', hall, hus, hshort⟩ := hcr
          have hLk := L2.out.keep ME.out.keep (by simp)
          have hSge : W.heap.size ≤ S := ME.out.new S (by simp [blocks])
          have hDge : W.heap.size ≤ D := ME.out.new D (by simp [blocks])
          have HCRA := hid (crash_any D S _ (.slice a2 q c2) dD ks w8 ME.out.disk hLk (by rw [HQ.out]; omega) ((lst_ne (w := W) L2.out hSge).imp (fun z => by simpa [bl] using z) id))
          have HLEN : Hid ((⟨(St.settled dD (keptL ks)).sure, [], -1⟩ : St).sure.length = 600) := hid (by
            show (settleL (keptL ks) 0 _ _).length = _
            rw [settle_len]
            exact CR.out.1)
          obtain ⟨dC, hdC⟩ : ∃ dC, (⟨(St.settled dD (keptL ks)).sure, [], -1⟩ : St) = dC := ⟨_, rfl⟩
          have hws : dC.ws = [] := by rw [← hdC]
          have hfu : dC.fuse = -1 := by rw [← hdC]
          rw [hdC] at HCRA HLEN hheads hall
          have HHD := hid hheads
          have HALL := hid hall
          have HSH := hid hshort
          have HWS := hid hws
          have HFU := hid hfu
          have HUS := hid hus
          clear hdC hLk hws hfu hheads hall hshort hus
          refine HCRA.out.mono ?_
          rintro eA wA ⟨rfl, aA, kA⟩
          have MA := hid (ME.out.settle aA kA)
          have RA := hid (own_keep RW.out kA (fun b hb hq => by have := ND.out b hb; simp at hq; rcases hq with q | q; exact this.1 q; exact this.2 q))
          clear aA kA HCRA
          have hGl := HE.out.lt
          have HO := hid (open_any (ts := ts ++ us) (e := e') MA.out.disk (env_keep HE.out MA.out.keep) HWS.out HFU.out HHD.out (Nat.le_of_eq HLEN.out) (by omega) (by omega) (by rw [HLEN.out]; exact HALL.out))
          go_wp2_with (first | (go_at_call 23; fail))
          refine HO.out.mono ?_
          rintro eB wB ⟨XB, MB, nB, BB, kvB, rfl, mB, aB, kB, hX, hM, hBB, hBB2, -⟩
          have LB := hid mB
          have RB := hid (own_keep RA.out kB (fun b hb hq => by have := ND.out b hb; simp at hq; rcases hq with q | q; exact this.1 q; exact this.2 q))
          have KB := hid (MA.out.keep.then kB (fun y hy => Or.inr (by simp at hy; rcases hy with rfl | rfl <;> assumption)))
          clear mB aB kB hX hM hBB hBB2 HO
          have hlu : (ts ++ us).length ≤ 1000 := by rw [List.length_append]; have := HUS.out; omega
          have HKY := hid (keys_any LB.out hlu)
          go_wp2_with (first | (go_at_call 26; fail))
          refine HKY.out.mono ?_
          rintro eC wC ⟨vC, rfl, oC, bC⟩
          have LC := hid (LB.out.below bC)
          have RC := hid (own_keep RB.out (Keep.of (X := []) bC) (by simp))
          have KC := hid (KB.out.then (Keep.of (X := []) bC) (by simp))
          have LL := hid (lst_own oC).1
          have hku : (keyS (ts ++ us)).length = (ts ++ us).length := keyS_len _
          have hle : ts.length ≤ (ts ++ us).length := by rw [List.length_append]; omega
          have KC2 := hid bC
          clear bC
          rcases oC.2 with ⟨hvC, hz⟩ | ⟨g, cap, cur, hvC, hg1, hg2, hcap, hcapM, -, -⟩
          · subst hvC
            have hz2 : ts.length = 0 := by omega
            have hEQ := equal_any (.slice none 0 0) (.slice pa ts.length pc) (keyS ts) wC ⟨none, 0, by rw [st_len, keyS_len, hz2], Or.inl (by rw [List.length_eq_zero_iff.1 hz2]; rfl)⟩ (lst_own RC.out).1 (by rw [keyS_len]; omega)
            have HEQ := hid hEQ
            rw [hz2] at HEQ ⊢
            clear hEQ LL
            go_wp2_with (first | (go_at_call 25; refine HEQ.out.mono ?_; rintro eD wD ⟨rfl, hbD⟩; have KD := hid (KC.out.then (Keep.of (X := []) hbD) (by simp)); clear hbD))
            refine wp_loop_rounds 1 ?_
            rw [rounds_succ]
            go_wp2
            go_ret
            exact ⟨rfl, KD.out.below (by simp) (Nat.le_refl _)⟩
          · subst hvC
            obtain ⟨nu, hnu⟩ : ∃ nu, (ts ++ us).length = nu := ⟨_, rfl⟩
            obtain ⟨nt, hnt⟩ : ∃ nt, ts.length = nt := ⟨_, rfl⟩
            have hrg := own_cells oC
            have hEQ := equal_any (.slice (some ⟨g, 0, none⟩) nt cap) (.slice pa ts.length pc) (keyS ts) wC ⟨some ⟨g, 0, none⟩, cap, by rw [st_len, keyS_len, hnt], by
              by_cases hz : ts = []
              · exact Or.inl (by rw [hz]; rfl)
              · refine Or.inr ⟨g, 0, rfl, (Array.getElem?_eq_some_iff.1 hg2).1, fun j v hv => hrg j v ?_⟩
                have : st (keyS (ts ++ us)) = st (keyS ts) ++ st (keyS us) := by simp [st, keyS]
                rw [this, List.getElem?_append_left (List.getElem?_eq_some_iff.1 hv).1]
                exact hv⟩ (lst_own RC.out).1 (by rw [keyS_len]; omega)
            have HEQ := hid hEQ
            have HRG := hid hrg
            have HGL : Hid (g < wC.heap.size) := hid (Array.getElem?_eq_some_iff.1 hg2).1
            rw [hnt] at HEQ hle ⊢
            rw [hnu] at hle hcap hlu ⊢
            have HNU := hid hnu
            have hle1 : ¬ (nu : Int) < (nt : Int) := by omega
            have hdec : decide (nu < nt) = false := by simp; omega
            have hle2 : (nt : Int) ≤ (cap : Int) := by omega
            have hle3 : (0 : Int) ≤ (nt : Int) := by omega
            clear hEQ LL hrg hnu hnt oC hg2
            go_wp2_with (first | (go_at_call 25; fail))
            refine HEQ.out.mono ?_
            rintro eD wD ⟨rfl, hbD⟩
            have HBD := hid hbD
            clear hbD HEQ
            go_wp2
            go_loopw [16] (fun pi wz => ∃ i2 : Nat, pi = .int .i64 (i2 : Int) ∧ i2 ≤ nu ∧ Below wC.heap.size wC wz) (fun pi _ => nu - (intOf pi).toNat)
            case atStart => exact ⟨0, rfl, Nat.zero_le _, HBD.out⟩
            case round =>
              obtain ⟨i2, rfl, hi2, hbz⟩ := hrel
              have HBZ := hid hbz
              clear hbz
              by_cases hlt2 : i2 < nu
              · have hi3 : i2 < (ts ++ us).length := by rw [HNU.out]; exact hlt2
                obtain ⟨t2, ht2⟩ : ∃ t2, (ts ++ us)[i2] = t2 := ⟨_, rfl⟩
                have hkey : (st (keyS (ts ++ us)))[i2]? = some (.string (tx (sumL t2))) := by
                  rw [key_at _ _ hi3, ht2]
                have hmem : sumL t2 ∈ (ts ++ us).map sumL := List.mem_map.2 ⟨t2, by rw [← ht2]; exact List.getElem_mem hi3, rfl⟩
                obtain ⟨kx2, hkx2⟩ : ∃ kx2, tx (sumL t2) = kx2 := ⟨_, rfl⟩
                have HCE : Hid (∀ V : World, Below wC.heap.size wC V → V.cell? ⟨g, i2, none⟩ = some (.string kx2)) := hid (fun V hV => by
                  rw [hV.cell (p := ⟨g, i2, none⟩) HGL.out]
                  have := HRG.out i2 _ hkey
                  rw [Nat.zero_add] at this
                  rw [this, hkx2])
                have HGT := hid (get_some (LC.out.below HBZ.out) (by rw [sumL_len]; decide) hmem)
                rw [hkx2] at HGT
                have c8 := HCE.out _ HBZ.out
                have hI2 : (i2 : Int) < (nu : Int) := by omega
                have HKX2 := hid hkx2
                clear hkey hmem ht2 hkx2
                go_wp2_with (first | (go_at_call 27; fail))
                refine HGT.out.mono ?_
                rintro eE wE ⟨t', ht', hs', rfl, hbE⟩
                have HBE := hid (HBZ.out.trans (hbE.mono HBZ.out.size))
                have hl' := HSH.out t' ht'
                have HSU : Hid (∀ V : World, Below wC.heap.size wC V → Calls Tryd.prog 28 #[.string (tx t')] V fun e w' => e = .returned (.string kx2) ∧ Below V.heap.size V w') := hid (fun V hV => by
                  refine (sum_any (tx t') V (by rw [tx_sz]; omega) (env_keep HE.out (KC.out.then (Keep.of (X := []) hV) (by simp)))).mono ?_
                  rintro e w' ⟨rfl, hb⟩
                  refine ⟨?_, hb⟩
                  rw [tx_list, hs', ← HKX2.out]
                  rfl)
                obtain ⟨s', hs2⟩ : ∃ s', tx t' = s' := ⟨_, rfl⟩
                rw [hs2] at HSU ⊢
                have c9 : wE.drew.cell? ⟨g, i2, none⟩ = some (.string kx2) := HCE.out _ HBE.out.drew
                have HC9 := hid c9
                clear hbE ht' hs' hl' hs2 c9 c8
                have c10 := HCE.out _ HBE.out
                go_wp2
                go_region_held3 (fun V => V.cell? ⟨g, i2, none⟩ = some (.string kx2)) (first | exact HC9.out | exact G9.out) (first | (go_at_call 28; refine (HSU.out _ (HBE.out.drew)).mono ?_; rintro eF wF ⟨rfl, hbF⟩; have HBF := hid (show Below wC.heap.size wC wF from (HBE.out.drew).trans (hbF.mono HBE.out.size)); have G9 := hid (HCE.out wF HBF.out); clear hbF))
                go_wp2
                go_roundw
                case rel => exact ⟨i2 + 1, by go_num, hlt2, HBF.out⟩
                case measure => simp [intOf]; omega
              · have hI2 : ¬ (i2 : Int) < (nu : Int) := by omega
                go_wp2
                go_ret
                exact ⟨rfl, (KC.out.then (Keep.of (X := []) HBZ.out) (by simp)).below (by simp) (Nat.le_refl _)⟩
      · have ME := hid LV.out.mine
        have CR := hid (cr_live LV.out.inv HD6.out)
        have RW := hid OW.out.row
        have ND : Hid (∀ b, (Value.slice pa ts.length pc).ownBlock = some b → b ≠ D ∧ b ≠ S) := hid (fun b hb => ⟨fun z => OW.out.off b hb (by simp [blocks, z]), fun z => OW.out.off b hb (by simp [blocks, z])⟩)
        have hiI : ¬ (i : Int) < (n : Int) := by omega
        have hcr := CR.out.2 (keptL ks)
        obtain ⟨hheads, us, e', hall, hus, hshort⟩ := hcr
        have hLk := L2.out.keep ME.out.keep (by simp)
        have hSge : W.heap.size ≤ S := ME.out.new S (by simp [blocks])
        have hDge : W.heap.size ≤ D := ME.out.new D (by simp [blocks])
        have HCRA := hid (crash_any D S _ (.slice a2 q c2) d ks wr ME.out.disk hLk (by rw [HQ.out]; omega) ((lst_ne (w := W) L2.out hSge).imp (fun z => by simpa [bl] using z) id))
        have HLEN : Hid ((⟨(St.settled d (keptL ks)).sure, [], -1⟩ : St).sure.length = 600) := hid (by
          show (settleL (keptL ks) 0 _ _).length = _
          rw [settle_len]
          exact CR.out.1)
        obtain ⟨dC, hdC⟩ : ∃ dC, (⟨(St.settled d (keptL ks)).sure, [], -1⟩ : St) = dC := ⟨_, rfl⟩
        have hws : dC.ws = [] := by rw [← hdC]
        have hfu : dC.fuse = -1 := by rw [← hdC]
        rw [hdC] at HCRA HLEN hheads hall
        have HHD := hid hheads
        have HALL := hid hall
        have HSH := hid hshort
        have HWS := hid hws
        have HFU := hid hfu
        have HUS := hid hus
        clear hdC hLk hws hfu hheads hall hshort hus
        go_wp2_with (first | (go_at_call 17; fail))
        refine HCRA.out.mono ?_
        rintro eA wA ⟨rfl, aA, kA⟩
        have MA := hid (ME.out.settle aA kA)
        have RA := hid (own_keep RW.out kA (fun b hb hq => by have := ND.out b hb; simp at hq; rcases hq with q | q; exact this.1 q; exact this.2 q))
        clear aA kA HCRA
        have hGl := HE.out.lt
        have HO := hid (open_any (ts := ts ++ us) (e := e') MA.out.disk (env_keep HE.out MA.out.keep) HWS.out HFU.out HHD.out (Nat.le_of_eq HLEN.out) (by omega) (by omega) (by rw [HLEN.out]; exact HALL.out))
        go_wp2_with (first | (go_at_call 23; fail))
        refine HO.out.mono ?_
        rintro eB wB ⟨XB, MB, nB, BB, kvB, rfl, mB, aB, kB, hX, hM, hBB, hBB2, -⟩
        have LB := hid mB
        have RB := hid (own_keep RA.out kB (fun b hb hq => by have := ND.out b hb; simp at hq; rcases hq with q | q; exact this.1 q; exact this.2 q))
        have KB := hid (MA.out.keep.then kB (fun y hy => Or.inr (by simp at hy; rcases hy with rfl | rfl <;> assumption)))
        clear mB aB kB hX hM hBB hBB2 HO
        have hlu : (ts ++ us).length ≤ 1000 := by rw [List.length_append]; have := HUS.out; omega
        have HKY := hid (keys_any LB.out hlu)
        go_wp2_with (first | (go_at_call 26; fail))
        refine HKY.out.mono ?_
        rintro eC wC ⟨vC, rfl, oC, bC⟩
        have LC := hid (LB.out.below bC)
        have RC := hid (own_keep RB.out (Keep.of (X := []) bC) (by simp))
        have KC := hid (KB.out.then (Keep.of (X := []) bC) (by simp))
        have LL := hid (lst_own oC).1
        have hku : (keyS (ts ++ us)).length = (ts ++ us).length := keyS_len _
        have hle : ts.length ≤ (ts ++ us).length := by rw [List.length_append]; omega
        have KC2 := hid bC
        clear bC
        rcases oC.2 with ⟨hvC, hz⟩ | ⟨g, cap, cur, hvC, hg1, hg2, hcap, hcapM, -, -⟩
        · subst hvC
          have hz2 : ts.length = 0 := by omega
          have hEQ := equal_any (.slice none 0 0) (.slice pa ts.length pc) (keyS ts) wC ⟨none, 0, by rw [st_len, keyS_len, hz2], Or.inl (by rw [List.length_eq_zero_iff.1 hz2]; rfl)⟩ (lst_own RC.out).1 (by rw [keyS_len]; omega)
          have HEQ := hid hEQ
          rw [hz2] at HEQ ⊢
          clear hEQ LL
          go_wp2_with (first | (go_at_call 25; refine HEQ.out.mono ?_; rintro eD wD ⟨rfl, hbD⟩; have KD := hid (KC.out.then (Keep.of (X := []) hbD) (by simp)); clear hbD))
          refine wp_loop_rounds 1 ?_
          rw [rounds_succ]
          go_wp2
          go_ret
          exact ⟨rfl, KD.out.below (by simp) (Nat.le_refl _)⟩
        · subst hvC
          obtain ⟨nu, hnu⟩ : ∃ nu, (ts ++ us).length = nu := ⟨_, rfl⟩
          obtain ⟨nt, hnt⟩ : ∃ nt, ts.length = nt := ⟨_, rfl⟩
          have hrg := own_cells oC
          have hEQ := equal_any (.slice (some ⟨g, 0, none⟩) nt cap) (.slice pa ts.length pc) (keyS ts) wC ⟨some ⟨g, 0, none⟩, cap, by rw [st_len, keyS_len, hnt], by
            by_cases hz : ts = []
            · exact Or.inl (by rw [hz]; rfl)
            · refine Or.inr ⟨g, 0, rfl, (Array.getElem?_eq_some_iff.1 hg2).1, fun j v hv => hrg j v ?_⟩
              have : st (keyS (ts ++ us)) = st (keyS ts) ++ st (keyS us) := by simp [st, keyS]
              rw [this, List.getElem?_append_left (List.getElem?_eq_some_iff.1 hv).1]
              exact hv⟩ (lst_own RC.out).1 (by rw [keyS_len]; omega)
          have HEQ := hid hEQ
          have HRG := hid hrg
          have HGL : Hid (g < wC.heap.size) := hid (Array.getElem?_eq_some_iff.1 hg2).1
          rw [hnt] at HEQ hle ⊢
          rw [hnu] at hle hcap hlu ⊢
          have HNU := hid hnu
          have hle1 : ¬ (nu : Int) < (nt : Int) := by omega
          have hdec : decide (nu < nt) = false := by simp; omega
          have hle2 : (nt : Int) ≤ (cap : Int) := by omega
          have hle3 : (0 : Int) ≤ (nt : Int) := by omega
          clear hEQ LL hrg hnu hnt oC hg2
          go_wp2_with (first | (go_at_call 25; fail))
          refine HEQ.out.mono ?_
          rintro eD wD ⟨rfl, hbD⟩
          have HBD := hid hbD
          clear hbD HEQ
          go_wp2
          go_loopw [16] (fun pi wz => ∃ i2 : Nat, pi = .int .i64 (i2 : Int) ∧ i2 ≤ nu ∧ Below wC.heap.size wC wz) (fun pi _ => nu - (intOf pi).toNat)
          case atStart => exact ⟨0, rfl, Nat.zero_le _, HBD.out⟩
          case round =>
            obtain ⟨i2, rfl, hi2, hbz⟩ := hrel
            have HBZ := hid hbz
            clear hbz
            by_cases hlt2 : i2 < nu
            · have hi3 : i2 < (ts ++ us).length := by rw [HNU.out]; exact hlt2
              obtain ⟨t2, ht2⟩ : ∃ t2, (ts ++ us)[i2] = t2 := ⟨_, rfl⟩
              have hkey : (st (keyS (ts ++ us)))[i2]? = some (.string (tx (sumL t2))) := by
                rw [key_at _ _ hi3, ht2]
              have hmem : sumL t2 ∈ (ts ++ us).map sumL := List.mem_map.2 ⟨t2, by rw [← ht2]; exact List.getElem_mem hi3, rfl⟩
              obtain ⟨kx2, hkx2⟩ : ∃ kx2, tx (sumL t2) = kx2 := ⟨_, rfl⟩
              have HCE : Hid (∀ V : World, Below wC.heap.size wC V → V.cell? ⟨g, i2, none⟩ = some (.string kx2)) := hid (fun V hV => by
                rw [hV.cell (p := ⟨g, i2, none⟩) HGL.out]
                have := HRG.out i2 _ hkey
                rw [Nat.zero_add] at this
                rw [this, hkx2])
              have HGT := hid (get_some (LC.out.below HBZ.out) (by rw [sumL_len]; decide) hmem)
              rw [hkx2] at HGT
              have c8 := HCE.out _ HBZ.out
              have hI2 : (i2 : Int) < (nu : Int) := by omega
              have HKX2 := hid hkx2
              clear hkey hmem ht2 hkx2
              go_wp2_with (first | (go_at_call 27; fail))
              refine HGT.out.mono ?_
              rintro eE wE ⟨t', ht', hs', rfl, hbE⟩
              have HBE := hid (HBZ.out.trans (hbE.mono HBZ.out.size))
              have hl' := HSH.out t' ht'
              have HSU : Hid (∀ V : World, Below wC.heap.size wC V → Calls Tryd.prog 28 #[.string (tx t')] V fun e w' => e = .returned (.string kx2) ∧ Below V.heap.size V w') := hid (fun V hV => by
                refine (sum_any (tx t') V (by rw [tx_sz]; omega) (env_keep HE.out (KC.out.then (Keep.of (X := []) hV) (by simp)))).mono ?_
                rintro e w' ⟨rfl, hb⟩
                refine ⟨?_, hb⟩
                rw [tx_list, hs', ← HKX2.out]
                rfl)
              obtain ⟨s', hs2⟩ : ∃ s', tx t' = s' := ⟨_, rfl⟩
              rw [hs2] at HSU ⊢
              have c9 : wE.drew.cell? ⟨g, i2, none⟩ = some (.string kx2) := HCE.out _ HBE.out.drew
              have HC9 := hid c9
              clear hbE ht' hs' hl' hs2 c9 c8
              have c10 := HCE.out _ HBE.out
              go_wp2
              go_region_held3 (fun V => V.cell? ⟨g, i2, none⟩ = some (.string kx2)) (first | exact HC9.out | exact G9.out) (first | (go_at_call 28; refine (HSU.out _ (HBE.out.drew)).mono ?_; rintro eF wF ⟨rfl, hbF⟩; have HBF := hid (show Below wC.heap.size wC wF from (HBE.out.drew).trans (hbF.mono HBE.out.size)); have G9 := hid (HCE.out wF HBF.out); clear hbF))
              go_wp2
              go_roundw
              case rel => exact ⟨i2 + 1, by go_num, hlt2, HBF.out⟩
              case measure => simp [intOf]; omega
            · have hI2 : ¬ (i2 : Int) < (nu : Int) := by omega
              go_wp2
              go_ret
              exact ⟨rfl, (KC.out.then (Keep.of (X := []) HBZ.out) (by simp)).below (by simp) (Nat.le_refl _)⟩
end Go.Proofs.YtemcpjflpggaeaaDoor.Dk
