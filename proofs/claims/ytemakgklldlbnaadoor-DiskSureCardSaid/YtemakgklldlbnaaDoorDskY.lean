import Derived.Test.YtemakgklldlbnaaDoorDskZ
set_option linter.unusedSimpArgs false
set_option linter.unusedVariables false
namespace Go.Proofs.YtemakgklldlbnaaDoor.Dk
open Go.RowKit Go.Maps

theorem bel_boxD {w w2 : World} (h1 : Below w.heap.size w w2) (o : Obj) : Below w.heap.size w (w2.alloc o) := h1.alloc h1.size o
theorem bel_thenD {w w2 w3 : World} (h1 : Below w.heap.size w w2) (h2 : Below w2.heap.size w2 w3) : Below w.heap.size w w3 := h1.trans (h2.mono h1.size)
theorem settled_len (d : St) (f : Nat → Bool) : (d.settled f).sure.length = d.sure.length := settle_len _ _ _ _
theorem end_meas {k gh : Nat} (h : k < 16) (h2 : 16 - k ≤ gh) : 16 - (k + 1) < gh := by omega
theorem j1_len {d : St} {g : Nat → List ByteArray} (h : J1 d g) (k : Nat) (hk : k < 16) : (g k).length ≤ 100 := by
  rcases h k hk with ⟨e, -⟩ | ⟨x, e, -⟩ <;> simp [e]
theorem rows64 {d2 d3 : St} {g2 g3 : Nat → List ByteArray} {more : List ByteArray} (h1 : J1 d2 g2) (h64 : ∀ k, k < 16 → (d2.read k).length = 64) (hm : ∀ s ∈ more, s.size ≤ 64) (h3 : J2 d2.sure g2 more d3 g3) : ∀ k, k < 16 → ∀ a ∈ g3 k, a.size ≤ 64 := by
  intro k hk a ha
  rw [h3.2.1 k hk] at ha
  rcases List.mem_append.1 ha with ha | ha
  · rcases h1 k hk with ⟨e, -⟩ | ⟨x, e, hx⟩
    · rw [e] at ha; simp at ha
    · rw [e] at ha
      rw [List.mem_singleton.1 ha, ← hx, tx_size, h64 k hk]
      exact Nat.le_refl _
  · obtain ⟨x, hxm, rfl⟩ := atK_mem ha
    obtain ⟨-, s, hs, e⟩ := h3.2.2 x hxm
    rw [e, full_size s (hm s hs)]
    exact Nat.le_refl _
theorem off_keep {v : Value} {ks : List Bool} {X : List Nat} (h : ks = [] ∨ ∀ b, v.ownBlock = some b → b ∉ X) : bl ks = [] ∨ ∀ k ∈ X, v.ownBlock ≠ some k :=
  h.imp (fun e => by rw [e]; rfl) (fun h k hk e => h k e hk)
theorem off_keepS {v : Value} {ks : List ByteArray} {X : List Nat} (h : ks = [] ∨ ∀ b, v.ownBlock = some b → b ∉ X) : st ks = [] ∨ ∀ k ∈ X, v.ownBlock ≠ some k :=
  h.imp (fun e => by rw [e]; rfl) (fun h k hk e => h k e hk)
theorem row_one {w : World} {ra : Option Addr} {nn rc : Nat} {g : List ByteArray} {a : ByteArray} (h : Lst w (.slice ra nn rc) (st g)) (ha : g = [a]) (hn : g.length = nn) : ∃ gb ob, ra = some ⟨gb, ob, none⟩ ∧ w.cell? ⟨gb, ob, none⟩ = some (.string a) := by
  subst hn
  subst ha
  obtain ⟨-, b, o, e, -, hr⟩ := h.at (by simp)
  refine ⟨b, o, e, ?_⟩
  have := hr 0 (.string a) rfl
  simpa using this
theorem dsm_ge {B D S M : Nat} (h : B ≤ D ∧ B ≤ S ∧ B ≤ M) : ∀ x ∈ [D, S, M], B ≤ x := by
  intro x hx
  simp at hx
  omega
theorem lst_ltA {W : World} {a : Option Addr} {m c : Nat} {xs : List Int} (h : Lst W (.slice a m c) (it xs)) (hm : ¬ m = 0) : ∀ b, (Value.slice a m c).ownBlock = some b → b < W.heap.size := by
  obtain ⟨-, b, o, rfl, hb, -⟩ := h.at (Nat.pos_of_ne_zero hm)
  intro x hx
  simp only [Value.ownBlock, Option.some.injEq] at hx
  rw [← hx]
  exact hb
theorem lst_gen {W : World} {a : Option Addr} {m c D S M : Nat} {xs : List Value} (h : Lst W (.slice a m c) xs) (hn : W.heap.size ≤ D ∧ W.heap.size ≤ S ∧ W.heap.size ≤ M) : xs = [] ∨ ∀ b, (Value.slice a m c).ownBlock = some b → b ∉ [D, S, M] := by
  obtain ⟨a', c', e, h⟩ := h
  rcases h with h | ⟨b, o, rfl, hb, -⟩
  · exact Or.inl h
  · refine Or.inr fun x hx => ?_
    injection e with e1 e2 e3
    subst e1
    simp only [Value.ownBlock, Option.some.injEq] at hx
    simp
    omega
theorem lst_off {W : World} {a : Option Addr} {m c D S M : Nat} {xs : List ByteArray} (h : Lst W (.slice a m c) (st xs)) (hn : W.heap.size ≤ D ∧ W.heap.size ≤ S ∧ W.heap.size ≤ M) : xs = [] ∨ ∀ b, (Value.slice a m c).ownBlock = some b → b ∉ [D, S, M] :=
  (lst_gen h hn).imp (fun e => by have := congrArg List.length e; rw [st_len] at this; exact List.eq_nil_of_length_eq_zero this) id
theorem lst_offb {W : World} {a : Option Addr} {m c D S M : Nat} {xs : List Bool} (h : Lst W (.slice a m c) (bl xs)) (hn : W.heap.size ≤ D ∧ W.heap.size ≤ S ∧ W.heap.size ≤ M) : xs = [] ∨ ∀ b, (Value.slice a m c).ownBlock = some b → b ∉ [D, S, M] :=
  (lst_gen h hn).imp (fun e => by have := congrArg List.length e; simp [bl] at this; exact this) id
set_option maxRecDepth 100000 in
set_option maxHeartbeats 4000000 in
theorem sure_any (v0 v1 v2 v3 : Value) (l more : List ByteArray) (ats : List Int) (ks : List Bool) (W : World) (h0 : Lst W v0 (st l)) (h1 : Lst W v1 (st more)) (h2 : Lst W v2 (it ats)) (h3 : Lst W v3 (bl ks)) (hls : ∀ x ∈ l, x.size ≤ maxLen) (hms : ∀ x ∈ more, x.size ≤ maxLen) (hai : ∀ x ∈ ats, -9223372036854775808 ≤ x ∧ x ≤ 9223372036854775807) :
    Calls Tryd.prog 3 #[v0, v1, v2, v3] W fun e w' => e = .returned (.bool true) ∧ Below W.heap.size W w' := by
  have L0 := hid h0
  have L1 := hid h1
  have L2 := hid h2
  have L3 := hid h3
  obtain ⟨a0, c0, rfl, -⟩ := h0
  obtain ⟨a1, c1, rfl, -⟩ := h1
  obtain ⟨a2, c2, rfl, -⟩ := h2
  obtain ⟨a3, c3, rfl, -⟩ := h3
  have hb3 : (bl ks).length = ks.length := by simp [bl]
  rw [st_len] at L0 L1 ⊢
  rw [st_len]
  rw [it_len] at L2 ⊢
  rw [hb3] at L3 ⊢
  obtain ⟨n, hn⟩ : ∃ n, l.length = n := ⟨_, rfl⟩
  obtain ⟨p, hp⟩ : ∃ p, more.length = p := ⟨_, rfl⟩
  obtain ⟨m, hm⟩ : ∃ m, ats.length = m := ⟨_, rfl⟩
  obtain ⟨q, hq⟩ : ∃ q, ks.length = q := ⟨_, rfl⟩
  have HN := hid hn
  have HP := hid hp
  have HM := hid hm
  have HQ := hid hq
  rw [hn] at L0 ⊢
  rw [hp] at L1 ⊢
  rw [hm] at L2 ⊢
  rw [hq] at L3 ⊢
  clear hn hp hm hq hb3
  by_cases g1 : 20 < n
  · have g1I : (20 : Int) < (n : Int) := by omega
    go_enter Tryd.func3, Tryd.ntmps3
    go_wp2
    go_ret
    exact ⟨rfl, bel_boxD (Below.refl _ _) _⟩
  by_cases g2 : 20 < p
  · have g2I : (20 : Int) < (p : Int) := by omega
    go_enter Tryd.func3, Tryd.ntmps3
    go_wp2
    go_ret
    exact ⟨rfl, bel_boxD (Below.refl _ _) _⟩
  by_cases g3 : m = 0
  · subst g3
    go_enter Tryd.func3, Tryd.ntmps3
    go_wp2
    go_ret
    exact ⟨rfl, bel_boxD (Below.refl _ _) _⟩
  by_cases g4 : 20 < m
  · have g4I : (20 : Int) < (m : Int) := by omega
    go_enter Tryd.func3, Tryd.ntmps3
    go_wp2
    go_ret
    exact ⟨rfl, bel_boxD (Below.refl _ _) _⟩
  by_cases g5 : 30 < q
  · have g5I : (30 : Int) < (q : Int) := by omega
    go_enter Tryd.func3, Tryd.ntmps3
    go_wp2
    go_ret
    exact ⟨rfl, bel_boxD (Below.refl _ _) _⟩
  have q1 : decide ((20 : Int) < (n : Int)) = false := by simp; omega
  have q2 : decide ((20 : Int) < (p : Int)) = false := by simp; omega
  have q3 : ((m : Int) == 0) = false := by simp; omega
  have q4 : decide ((20 : Int) < (m : Int)) = false := by simp; omega
  have q5 : decide ((30 : Int) < (q : Int)) = false := by simp; omega
  have HC0 := hid (fun V hV => has_sure _ l V (L0.out.below hV) (by have := HN.out; omega) hls)
  have HC1 := hid (fun V hV => has_sure _ more V (L1.out.below hV) (by have := HP.out; omega) hms)
  cases ha : l.any longS with
  | true =>
    rw [ha] at HC0
    go_enter Tryd.func3, Tryd.ntmps3
    go_wp2_with (first | (go_at_call 7; refine (HC0.out _ (bel_boxD (Below.refl _ _) _)).mono ?_; rintro e w1 ⟨rfl, b1⟩))
    go_ret
    exact ⟨rfl, bel_thenD (bel_boxD (Below.refl _ _) _) b1⟩
  | false =>
    rw [ha] at HC0
    have HSM : Hid (∀ x ∈ l, x.size ≤ 64) := hid (fun x hx => by
      have := List.any_eq_false.1 ha x hx
      simpa [longS] using this)
    clear ha
    cases ha : more.any longS with
    | true =>
      rw [ha] at HC1
      go_enter Tryd.func3, Tryd.ntmps3
      go_wp2_with (go_at_call 7; fail)
      refine (HC0.out _ (bel_boxD (Below.refl _ _) _)).mono ?_
      rintro e w1 ⟨rfl, b1⟩
      have B1 := hid (bel_thenD (bel_boxD (Below.refl _ _) _) b1)
      clear b1
      go_wp2_with (go_at_call 7; fail)
      refine (HC1.out _ B1.out).mono ?_
      rintro e w2 ⟨rfl, b2⟩
      have B2 := hid (bel_thenD B1.out b2)
      clear b2
      go_wp2
      go_ret
      exact ⟨rfl, B2.out⟩
    | false =>
      rw [ha] at HC1
      have HSN : Hid (∀ x ∈ more, x.size ≤ 64) := hid (fun x hx => by
        have := List.any_eq_false.1 ha x hx
        simpa [longS] using this)
      clear ha
      have HLO := hid lost_any
      have HNW := hid (fun w => new_any 16 w (by omega) (by omega))
      have hsf : ∀ (V : World) (a : Addr) (fn : Fn), (store a (.func fn #[] #[])).run Tryd.prog V = stored Tryd.prog V a (.func fn #[] #[]) .plain := fun V a fn => run_store _ V a _ _ rfl
      have hmk : ∀ V : World, (Instr.makeMap 35 none).run Tryd.prog V = .ok (.map (some V.heap.size)) (V.alloc (.map #[] 0)) := fun V => by kernel_rfl
      have hmf : ∀ (fn : Fn) (first cap : Array Value) (V : World), (Instr.makeFunc fn first cap).run Tryd.prog V = .ok (.func fn first cap) V := fun _ _ _ _ => rfl
      have HX0 := hid (Blk.new W [.slice a2 m c2] 23 _ rfl)
      go_enter Tryd.func3, Tryd.ntmps3
      go_wp2_with (go_at_call 7; fail)
      refine (HC0.out _ (bel_boxD (Below.refl _ _) _)).mono ?_
      rintro e w1 ⟨rfl, b1⟩
      have B1 := hid (bel_thenD (bel_boxD (Below.refl _ _) _) b1)
      have X1 := hid (HX0.out.below b1)
      clear b1
      go_wp2_with (go_at_call 7; fail)
      refine (HC1.out _ B1.out).mono ?_
      rintro e w2 ⟨rfl, b2⟩
      have B2 := hid (bel_thenD B1.out b2)
      have X2 := hid (X1.out.below b2)
      clear b2
      go_wp2_with (first | (go_at_call 8; refine (HLO.out _).mono ?_; rintro e w3 ⟨rfl, b3⟩; have B3 := hid (bel_thenD B2.out b3); have X3 := hid (X2.out.below b3); clear b3) | (go_at_call 9; refine (HNW.out _).mono ?_; rintro e w4 ⟨D, S, rfl, a4, b4, hD, hS⟩) | (go_at_call 12; fail))
      have hva : ∀ b, (Value.slice a2 m c2).ownBlock = some b → b < W.heap.size := lst_ltA L2.out g3
      have HST := hid (start_sure B3.out X3.out.lt X3.out a4 b4 hD hS L2.out hva rfl)
      obtain ⟨WB, hWB⟩ : ∃ x, x = (((w4.alloc (.cells #[.pointer (some ⟨D, 0, none⟩)] 28)).alloc (.cells #[.func (.func 10) #[] #[]] 34)).alloc (.map #[] 0)).alloc (.cells #[.map (some (w4.heap.size + 1 + 1))] 35) := ⟨_, rfl⟩
      rw [← hWB] at HST
      rw [← hWB]
      obtain ⟨CD, hCD⟩ : ∃ x, x = w4.heap.size := ⟨_, rfl⟩
      rw [← hCD] at HST
      rw [← hCD]
      obtain ⟨CF, hCF⟩ : ∃ x, x = CD + 1 := ⟨_, rfl⟩
      rw [← hCF] at HST
      rw [← hCF]
      obtain ⟨M, hM⟩ : ∃ x, x = CF + 1 := ⟨_, rfl⟩
      rw [← hM] at HST
      rw [← hM]
      obtain ⟨CM, hCM⟩ : ∃ x, x = M + 1 := ⟨_, rfl⟩
      rw [← hCM] at HST
      rw [← hCM]
      obtain ⟨CA, hCA⟩ : ∃ x, x = W.heap.size := ⟨_, rfl⟩
      have HWS := hid hCA
      rw [← hCA] at HST
      rw [← hCA]
      have HL0 : Hid (Lst WB (.slice a0 n c0) (st l) ∧ (l = [] ∨ ∀ b, (Value.slice a0 n c0).ownBlock = some b → b ∉ [D, S, M])) := hid ⟨L0.out.below (by rw [HWS.out] at HST; exact HST.out.2.2.1), lst_off L0.out (by rw [HWS.out] at HST; exact HST.out.2.2.2)⟩
      have HL1 : Hid (Lst WB (.slice a1 p c1) (st more) ∧ (more = [] ∨ ∀ b, (Value.slice a1 p c1).ownBlock = some b → b ∉ [D, S, M])) := hid ⟨L1.out.below (by rw [HWS.out] at HST; exact HST.out.2.2.1), lst_off L1.out (by rw [HWS.out] at HST; exact HST.out.2.2.2)⟩
      have HL3 : Hid (Lst WB (.slice a3 q c3) (bl ks) ∧ (ks = [] ∨ ∀ b, (Value.slice a3 q c3).ownBlock = some b → b ∉ [D, S, M])) := hid ⟨L3.out.below (by rw [HWS.out] at HST; exact HST.out.2.2.1), lst_offb L3.out (by rw [HWS.out] at HST; exact HST.out.2.2.2)⟩
      clear hWB hCD hCF hM hCM hCA a4 b4 hD hS hva
      refine (put_first J1 WB WB D S M 0 CA CF CD CM _ _ _ _ _ _ ats l (fun d g k s hs hk h16 hj => j1_step d g k s (HSM.out s hs) hj) HST.out.2.1 HL0.out.1 HL0.out.2 (by rw [HN.out]; exact Nat.le_of_not_lt g1) HSM.out (by rw [HM.out]; exact g3) (by rw [HM.out]; exact g4) hai HST.out.1 (by decide) rfl (by simp [newD]) (by simp [newD]) j1_new (by intro k hk; simp) (by simp)).mono ?_
      rintro e w5 ⟨rfl, n5, vw5, d5, m5, gg5, s5, hn5, hf5, hs5, hw5, j5, t5, l5⟩
      have h16 : d5.sure.length = 16 := by rw [hs5]; simp [newD]
      have J6 := hid (j1_sync j5 h16)
      have S5 := hid s5
      have T5 := hid (And.intro t5 l5)
      have HSY := hid (sfree D S vw5 d5 w5 s5.disk hf5)
      have k5 := (HST.out.2.1.at s5.keep).2.2.1
      have F5 := hid (And.intro hf5 (And.intro h16 hn5))
      clear s5 hs5 hw5 j5 t5 l5 hf5 h16 hn5
      go_wp2_with (go_at_call 15; fail)
      refine HSY.out.mono ?_
      rintro e w6 ⟨rfl, a6, kk6⟩
      have S6 := hid (S5.out.settle a6 kk6)
      clear a6 kk6
      have k6 := HST.out.2.1.at S6.out.keep
      obtain ⟨-, -, k6d, k6m, -⟩ := k6
      obtain ⟨Dm, hown, hsee⟩ := S6.out.may.map
      have HSEE := hid hsee
      clear hsee
      go_wp2_with (first | (at_range; refine wpList_range_own _ rfl _ 35 rfl 3 22 (int_keyed Tryd.underlying3) mapT Rv M n5 Dm rfl hown ?_; intro w7 hrg7 hg7 hs7))
      go_frame
      have HRB : Hid (∀ k b, k < 16 → (rowAt m5 k).ownBlock = some b → b < w6.heap.size) := hid (fun k b hk hb => (S6.out.row_ge hk hb).2)
      have SX7 := hid (S6.out.below ⟨hg7.os, hg7.tape, hg7.output, hg7.size, fun k hk => hg7.block k hk (by simp)⟩)
      have RX7 := hid hrg7
      clear hg7 hrg7 hs7 hown
      go_loopw [] (fun wr => ∃ left cnt, wr.ranges Tryd.prog 3 Rv M w6.heap.size n5 Dm left cnt ∧ Sure WB wr D S M n5 (.slice none 0 0) (d5.settled allK) m5 gg5) (fun wr => wr.rangeLeft M w6.heap.size)
      case atStart => exact ⟨_, _, RX7.out, SX7.out⟩
      case round =>
        obtain ⟨left, cnt, hrg, hsu⟩ := hrel
        have SR := hid hsu
        have RG := hid hrg
        clear hsu
        go_wp2_with (first | (at_next; refine wpList_next_ranges _ rfl _ rfl 3 (int_keyed Tryd.underlying3) Rv (Value.int .i64) (fun v : Value => v) (fun key kl h => by obtain ⟨x, rfl, _⟩ := keyOf_int_inv Tryd.underlying3 h; exact ⟨x, rfl⟩) (fun v y _ => ⟨v, rfl⟩) M w6.heap.size n5 Dm left cnt rfl hrg ?_ ?_) | go_in)
        · intro hc0 hl0
          clear hrg RG hc0 hl0
          obtain ⟨wm, rfl⟩ : ∃ x, x = wr := ⟨_, rfl⟩
          have F6 : Hid ((d5.settled allK).fuse = -1 ∧ (d5.settled allK).sure.length = 16 ∧ (d5.settled allK).ws = []) := hid ⟨F5.out.1, (settled_len _ _).trans F5.out.2.1, rfl⟩
          obtain ⟨d6, hd6⟩ : ∃ x, x = d5.settled allK := ⟨_, rfl⟩
          rw [← hd6] at J6 SR F6
          have HPM := hid (put_more (J2 d6.sure gg5 more) WB wm D S M n5 CA CF CD CM _ _ _ _ _ _ ats more (fun d g k s hs hk h16 hj => j2_step _ _ _ d g k s (HSN.out s hs) hs hk hj) HST.out.2.1 HL1.out.1 HL1.out.2 (by rw [HP.out]; exact Nat.le_of_not_lt g2) HSN.out (by rw [HM.out]; exact g3) (by rw [HM.out]; exact g4) hai SR.out (Nat.le_trans F5.out.2.2 (by decide)) F6.out.1 F6.out.2.1 (by rw [F6.out.2.2]; exact Nat.zero_le _) (j2_new d6 gg5 more F6.out.2.2) T5.out.1 (fun k hk => j1_len J6.out k hk))
          clear hd6
          go_wp2_with (go_at_call 12; fail)
          refine HPM.out.mono ?_
          rintro e wa ⟨rfl, na, vwa, da, ma, ga, sa, hna, hfa, hsa, hwa, ja, ta, la⟩
          have HFI := hid (fun k hk => fin3 ks J6.out F6.out.2.2 F6.out.2.1 ja k hk)
          have HG64 := hid (rows64 J6.out (fun k hk => read_64 SR.out.disk.ok k (by rw [F6.out.2.1]; exact hk)) HSN.out ja)
          have SA := hid sa
          have h16a : da.sure.length = 16 := by rw [hsa]; exact F6.out.2.1
          have HCR := hid (crash_any D S vwa (.slice a3 q c3) da ks wa sa.disk (HL3.out.1.keep2 sa.keep (off_keep HL3.out.2)) (by rw [HQ.out]; exact Nat.le_trans (Nat.le_of_not_lt g5) (by decide)) (HL3.out.2.imp id (fun h e => h S e (by simp))))
          have kda := (HST.out.2.1.at sa.keep).2.2.1
          have HLA := hid la
          clear sa hna hfa hsa hwa ja ta la HPM
          go_wp2_with (go_at_call 17; refine HCR.out.mono ?_; rintro e wb ⟨rfl, ab, kb⟩; have SB := hid (SA.out.settle ab kb); clear ab kb)
          have h16b : Hid ((⟨(da.settled (keptL ks)).sure, [], -1⟩ : St).sure.length = 16) := hid ((settled_len _ _).trans h16a)
          obtain ⟨d9, hd9⟩ : ∃ x, x = (⟨(da.settled (keptL ks)).sure, [], -1⟩ : St) := ⟨_, rfl⟩
          rw [← hd9] at SB HFI h16b
          clear hd9 h16a
          go_loopg [19] 16 (fun gh pv wr => ∃ (k c : Nat), k ≤ 16 ∧ 16 - k ≤ gh ∧ pv = .pointer (some ⟨c, 0, none⟩) ∧ Blk wr c [.int .i64 k] ∧ wb.heap.size ≤ c ∧ Sure WB wr D S M na (.slice none 0 0) d9 ma ga)
          case atStart => exact ⟨0, wb.heap.size, Nat.zero_le _, Nat.le_refl _, rfl, Blk.new _ _ _ _ rfl, Nat.le_refl _, SB.out.below (bel_boxD (Below.refl _ _) _)⟩
          case round =>
            obtain ⟨k, c, hk, hgh, rfl, hcb, hcl, hsu⟩ := hrel
            have SR2 := hid hsu
            have HCB := hid hcb
            have HCL := hid hcl
            have hck := hcb.cell 0 rfl
            clear hsu hcb hcl
            by_cases hk16 : k < 16
            · obtain ⟨f1, f2, f3, f4, -⟩ := HST.out.2.1.at SR2.out.keep
              have hkI : (k : Int) < 16 := by omega
              have HCE : Hid (∀ V : World, Below wr.heap.size wr V → V.cell? ⟨CF, 0, none⟩ = some (.func (.func 10) #[] #[]) ∧ V.cell? ⟨CM, 0, none⟩ = some (.map (some M)) ∧ V.cell? ⟨CD, 0, none⟩ = some (.pointer (some ⟨D, 0, none⟩)) ∧ V.cell? ⟨c, 0, none⟩ = some (.int .i64 (k : Int))) := hid (fun V hV => by
                obtain ⟨-, y2, y3, y4, -⟩ := HST.out.2.1.at (SR2.out.below hV).keep
                exact ⟨y2, y4, y3, (HCB.out.below hV).cell 0 rfl⟩)
              obtain ⟨ra, rc, hrow⟩ := own_sl (SR2.out.may.rows k hk16)
              obtain ⟨nn, hnn⟩ : ∃ nn, (ga k).length = nn := ⟨_, rfl⟩
              have HGN := hid hnn
              have HF3 := hid (HFI.out k hk16)
              have hlkx : ∀ V : World, Below wr.heap.size wr V → (Instr.lookup 35 (.map (some M)) (.int .i64 (k : Int)) false).run Tryd.prog V = .ok (.slice ra nn rc) V := fun V hV => by
                have h1 := (SR2.out.below hV).may.map.look (int_keyed Tryd.underlying3) mapT (zeroL V) (keyT k hk16) false
                refine h1.trans ?_
                show Result.ok (rowAt ma k) V = _
                rw [hrow, hnn]
              have HLK := hid hlkx
              have hrows := SR2.out.may.rows k hk16
              rw [hrow, hnn] at hrows
              have HLR : Hid (Lst wr (.slice ra nn rc) (st (ga k))) := hid (lst_own hrows).1
              have HROW : Hid (∀ a, ga k = [a] → ∃ gb ob, ra = some ⟨gb, ob, none⟩ ∧ wr.cell? ⟨gb, ob, none⟩ = some (.string a)) := hid (fun a ha => row_one HLR.out ha hnn)
              have HRD := hid (read_any D S _ d9 k wr SR2.out.disk (by rw [h16b.out]; exact hk16))
              have HFE := hid (fun V => full_any ⟨#[]⟩ V (by decide))
              rw [full_none] at HFE
              have HCT := hid (fun (V : World) (hV : Below wr.heap.size wr V) x => cont_any (.slice ra nn rc) (ga k) x V (HLR.out.below hV) (Nat.le_trans (HLA.out k hk16) (by decide)))
              have HA64 : Hid (∀ a ∈ ga k, a.size ≤ 64) := hid (fun a ha => HG64.out k hk16 a ha)
              have HLW : Hid (Lst wr (.slice a0 n c0) (st l) ∧ Lst wr (.slice a1 p c1) (st more)) := hid ⟨HL0.out.1.keep2 SR2.out.keep (off_keepS HL0.out.2), HL1.out.1.keep2 SR2.out.keep (off_keepS HL1.out.2)⟩
              have ht64 : (tx (d9.read k)).size = 64 := by rw [tx_size]; exact read_64 SR2.out.disk.ok k (by rw [h16b.out]; exact hk16)
              obtain ⟨tt, htt⟩ : ∃ x, x = tx (d9.read k) := ⟨_, rfl⟩
              rw [← htt] at HF3 HRD ht64
              obtain ⟨Z, hZ⟩ : ∃ x, x = tx zeros := ⟨_, rfl⟩
              rw [← hZ] at HFE
              have HZ := hid hZ
              clear hrow hnn hrows htt hZ hlkx
              by_cases hz : nn = 0
              · subst hz
                have htz : tt = Z := (HF3.out.none (List.eq_nil_of_length_eq_zero HGN.out)).trans HZ.out.symm
                subst htz
                go_wp2_with (first | (go_at_call 16; refine HRD.out.mono ?_; rintro e w1 ⟨rfl, b1⟩; have B1 := hid b1; obtain ⟨qf1, qm1, qd1, qc1⟩ := HCE.out w1 b1; have lk1 := HLK.out w1 b1; clear b1) | (go_at_call 10; refine (HFE.out _).mono ?_; rintro e w2 ⟨rfl, b2⟩; have B2 := hid (bel_thenD B1.out b2); obtain ⟨qf2, qm2, qd2, qc2⟩ := HCE.out w2 B2.out; have lk2 := HLK.out w2 B2.out; clear b2))
                have SE := hid (SR2.out.below B2.out)
                go_roundg (16 - (k + 1))
                case measure => exact end_meas hk16 hgh
                case rel => exact ⟨k + 1, _, hk16, Nat.le_refl _, rfl, Blk.new _ _ _ _ rfl, Nat.le_trans HCL.out (Nat.le_trans (Nat.le_of_lt HCB.out.lt) B2.out.size), SE.out.below (bel_boxD (Below.refl _ _) _)⟩
              · have hzb : ((nn : Int) == 0) = false := beq_false_of_ne (fun e => hz (by omega))
                have hzp : (0 : Int) < (nn : Int) := by omega
                by_cases h1 : nn = 1
                · subst h1
                  obtain ⟨a, ha⟩ := List.length_eq_one_iff.1 HGN.out
                  obtain ⟨gb, ob, hra, hcell⟩ := HROW.out a ha
                  subst hra
                  have hgbl := World.block_lt_of_cell? wr _ hcell
                  have HONE := hid (HF3.out.one a ha)
                  have HQA : Hid (∀ V : World, Below wr.heap.size wr V → V.cell? ⟨gb, ob, none⟩ = some (.string a)) := hid (fun V hV => (hV.cell (p := ⟨gb, ob, none⟩) hgbl).trans hcell)
                  have HTR := hid (fun V => trim_any a V (HA64.out a (by rw [ha]; simp)))
                  have HC2 := hid (fun V (hV : Below wr.heap.size wr V) x => cont_any (.slice a0 n c0) l x V ((HLW.out.1).below hV) (by rw [HN.out]; exact Nat.le_trans (Nat.le_of_not_lt g1) (by decide)))
                  have HHL := hid (fun V (hV : Below wr.heap.size wr V) => has_last CF CM c a (.slice a1 p c1) more V ((HLW.out.2).below hV) (by rw [HP.out]; exact Nat.le_trans (Nat.le_of_not_lt g2) (by decide)) (fun x hx V1 hV1 => last_any CF CM c M gb ob k rc a x V1 (HSN.out x hx) (fun V2 hV2 => by
                    have hb := bel_thenD hV (bel_thenD hV1 hV2)
                    obtain ⟨z1, z2, z3, z4⟩ := HCE.out V2 hb
                    exact ⟨z1, z2, z4, HLK.out V2 hb, HQA.out V2 hb⟩)))
                  clear hcell ha hgbl
                  go_wp2_with (first | (go_at_call 16; refine HRD.out.mono ?_; rintro e w1 ⟨rfl, b1⟩; have B1 := hid b1; obtain ⟨qf1, qm1, qd1, qc1⟩ := HCE.out w1 b1; have lk1 := HLK.out w1 b1; have qa1 := HQA.out w1 B1.out; clear b1) | (go_at_call 18; fail))
                  refine (HCT.out _ B1.out tt).mono ?_
                  rintro e wt ⟨⟨bb, rfl, hbb⟩, rfl⟩
                  cases bb
                  · have htz : tt = Z := ((HF3.out.some (by intro e; rw [e] at HGN; exact hz HGN.out.symm)).resolve_left (fun h => by have := hbb.2 h; cases this)).trans HZ.out.symm
                    subst htz
                    clear hbb
                    go_wp2_with (first | (go_at_call 10; refine (HFE.out _).mono ?_; rintro e w2 ⟨rfl, b2⟩; have B2 := hid (bel_thenD B1.out b2); obtain ⟨qf2, qm2, qd2, qc2⟩ := HCE.out w2 B2.out; have lk2 := HLK.out w2 B2.out; have qa2 := HQA.out w2 B2.out; clear b2) | (go_at_call 19; refine (HTR.out _).mono ?_; rintro e wt ⟨⟨xt, rfl⟩, rfl⟩) | (go_at_call 18; fail))
                    refine (HC2.out _ B2.out xt).mono ?_
                    rintro e wt ⟨⟨b2, rfl, -⟩, rfl⟩
                    cases b2
                    · go_wp2
                      have SE := hid (SR2.out.below B2.out)
                      go_roundg (16 - (k + 1))
                      case measure => exact end_meas hk16 hgh
                      case rel => exact ⟨k + 1, _, hk16, Nat.le_refl _, rfl, Blk.new _ _ _ _ rfl, Nat.le_trans HCL.out (Nat.le_trans (Nat.le_of_lt HCB.out.lt) B2.out.size), SE.out.below (bel_boxD (Below.refl _ _) _)⟩
                    · cases hb3 : more.any (isA a)
                      · rw [hb3] at HHL
                        have hta : tt = a := HONE.out (fun s hs e => by
                          have := List.any_eq_false.1 hb3 s hs
                          exact this ((isA_iff a s).2 e))
                        subst hta
                        go_wp2_with (go_at_call 7; refine (HHL.out _ B2.out).mono ?_; rintro e w3 ⟨rfl, b3⟩; have B3' := hid (bel_thenD B2.out b3); obtain ⟨qf3, qm3, qd3, qc3⟩ := HCE.out w3 B3'.out; have lk3 := HLK.out w3 B3'.out; have qa3 := HQA.out w3 B3'.out; clear b3)
                        have SE := hid (SR2.out.below B3'.out)
                        go_roundg (16 - (k + 1))
                        case measure => exact end_meas hk16 hgh
                        case rel => exact ⟨k + 1, _, hk16, Nat.le_refl _, rfl, Blk.new _ _ _ _ rfl, Nat.le_trans HCL.out (Nat.le_trans (Nat.le_of_lt HCB.out.lt) B3'.out.size), SE.out.below (bel_boxD (Below.refl _ _) _)⟩
                      · rw [hb3] at HHL
                        go_wp2_with (go_at_call 7; refine (HHL.out _ B2.out).mono ?_; rintro e w3 ⟨rfl, b3⟩; have B3' := hid (bel_thenD B2.out b3); obtain ⟨qf3, qm3, qd3, qc3⟩ := HCE.out w3 B3'.out; have lk3 := HLK.out w3 B3'.out; have qa3 := HQA.out w3 B3'.out; clear b3)
                        have SE := hid (SR2.out.below B3'.out)
                        go_roundg (16 - (k + 1))
                        case measure => exact end_meas hk16 hgh
                        case rel => exact ⟨k + 1, _, hk16, Nat.le_refl _, rfl, Blk.new _ _ _ _ rfl, Nat.le_trans HCL.out (Nat.le_trans (Nat.le_of_lt HCB.out.lt) B3'.out.size), SE.out.below (bel_boxD (Below.refl _ _) _)⟩
                  · clear hbb
                    go_wp2_with (first | (go_at_call 19; refine (HTR.out _).mono ?_; rintro e wt ⟨⟨xt, rfl⟩, rfl⟩) | (go_at_call 18; fail))
                    refine (HC2.out _ B1.out xt).mono ?_
                    rintro e wt ⟨⟨b2, rfl, -⟩, rfl⟩
                    cases b2
                    · go_wp2
                      have SE := hid (SR2.out.below B1.out)
                      go_roundg (16 - (k + 1))
                      case measure => exact end_meas hk16 hgh
                      case rel => exact ⟨k + 1, _, hk16, Nat.le_refl _, rfl, Blk.new _ _ _ _ rfl, Nat.le_trans HCL.out (Nat.le_trans (Nat.le_of_lt HCB.out.lt) B1.out.size), SE.out.below (bel_boxD (Below.refl _ _) _)⟩
                    · cases hb3 : more.any (isA a)
                      · rw [hb3] at HHL
                        have hta : tt = a := HONE.out (fun s hs e => by
                          have := List.any_eq_false.1 hb3 s hs
                          exact this ((isA_iff a s).2 e))
                        subst hta
                        go_wp2_with (go_at_call 7; refine (HHL.out _ B1.out).mono ?_; rintro e w3 ⟨rfl, b3⟩; have B3' := hid (bel_thenD B1.out b3); obtain ⟨qf3, qm3, qd3, qc3⟩ := HCE.out w3 B3'.out; have lk3 := HLK.out w3 B3'.out; have qa3 := HQA.out w3 B3'.out; clear b3)
                        have SE := hid (SR2.out.below B3'.out)
                        go_roundg (16 - (k + 1))
                        case measure => exact end_meas hk16 hgh
                        case rel => exact ⟨k + 1, _, hk16, Nat.le_refl _, rfl, Blk.new _ _ _ _ rfl, Nat.le_trans HCL.out (Nat.le_trans (Nat.le_of_lt HCB.out.lt) B3'.out.size), SE.out.below (bel_boxD (Below.refl _ _) _)⟩
                      · rw [hb3] at HHL
                        go_wp2_with (go_at_call 7; refine (HHL.out _ B1.out).mono ?_; rintro e w3 ⟨rfl, b3⟩; have B3' := hid (bel_thenD B1.out b3); obtain ⟨qf3, qm3, qd3, qc3⟩ := HCE.out w3 B3'.out; have lk3 := HLK.out w3 B3'.out; have qa3 := HQA.out w3 B3'.out; clear b3)
                        have SE := hid (SR2.out.below B3'.out)
                        go_roundg (16 - (k + 1))
                        case measure => exact end_meas hk16 hgh
                        case rel => exact ⟨k + 1, _, hk16, Nat.le_refl _, rfl, Blk.new _ _ _ _ rfl, Nat.le_trans HCL.out (Nat.le_trans (Nat.le_of_lt HCB.out.lt) B3'.out.size), SE.out.below (bel_boxD (Below.refl _ _) _)⟩
                · have hne1 : ((nn : Int) == 1) = false := beq_false_of_ne (fun e => h1 (by omega))
                  go_wp2_with (first | (go_at_call 16; refine HRD.out.mono ?_; rintro e w1 ⟨rfl, b1⟩; have B1 := hid b1; obtain ⟨qf1, qm1, qd1, qc1⟩ := HCE.out w1 b1; have lk1 := HLK.out w1 b1; clear b1) | (go_at_call 18; fail))
                  refine (HCT.out _ B1.out tt).mono ?_
                  rintro e wt ⟨⟨bb, rfl, hbb⟩, rfl⟩
                  cases bb
                  · have htz : tt = Z := ((HF3.out.some (by intro e; rw [e] at HGN; exact hz HGN.out.symm)).resolve_left (fun h => by have := hbb.2 h; cases this)).trans HZ.out.symm
                    subst htz
                    clear hbb
                    go_wp2_with (first | (go_at_call 10; refine (HFE.out _).mono ?_; rintro e w2 ⟨rfl, b2⟩; have B2 := hid (bel_thenD B1.out b2); obtain ⟨qf2, qm2, qd2, qc2⟩ := HCE.out w2 B2.out; have lk2 := HLK.out w2 B2.out; clear b2))
                    have SE := hid (SR2.out.below B2.out)
                    go_roundg (16 - (k + 1))
                    case measure => exact end_meas hk16 hgh
                    case rel => exact ⟨k + 1, _, hk16, Nat.le_refl _, rfl, Blk.new _ _ _ _ rfl, Nat.le_trans HCL.out (Nat.le_trans (Nat.le_of_lt HCB.out.lt) B2.out.size), SE.out.below (bel_boxD (Below.refl _ _) _)⟩
                  · clear hbb
                    go_wp2
                    have SE := hid (SR2.out.below B1.out)
                    go_roundg (16 - (k + 1))
                    case measure => exact end_meas hk16 hgh
                    case rel => exact ⟨k + 1, _, hk16, Nat.le_refl _, rfl, Blk.new _ _ _ _ rfl, Nat.le_trans HCL.out (Nat.le_trans (Nat.le_of_lt HCB.out.lt) B1.out.size), SE.out.below (bel_boxD (Below.refl _ _) _)⟩
            · have hke : k = 16 := Nat.le_antisymm hk (Nat.le_of_not_lt hk16)
              subst hke
              have BE := hid (HST.out.2.2.1.trans ((SR2.out.keep).below (dsm_ge HST.out.2.2.2) (by have := HST.out.2.2.1.size; exact HWS.out ▸ this)))
              go_wp2
              go_ret
              exact ⟨rfl, HWS.out ▸ BE.out⟩
        · intro x v kl ya yb w8 cnt8 hkey hlk hv hat hrg8 hlt8 hg8 hs8 hen
          have hy : ya = .held v := (congrArg Prod.fst (Option.some.inj hv)).symm
          subst hy
          have S8 := hid (SR.out.iter hg8 S6.out.keep.size HRB.out rfl)
          obtain ⟨k, a, gb, o, c, hk, rfl, rfl, hca, hrd⟩ := entry_is S8.out HSEE.out hat hkey T5.out.1 J6.out
          have HRD := hid (read_any D S _ _ k w8 S8.out.disk (by show k < (d5.settled allK).sure.length; rw [settled_len, F5.out.2.1]; exact hk))
          rw [hrd] at HRD
          have k8 := (HST.out.2.1.at S8.out.keep).2.2.1
          have hgb := World.block_lt_of_cell? w8 _ hca
          have R8 := hid hrg8
          have HLT := hid hlt8
          clear hrg hkey hlk hv hat hrg8 hg8 hs8 hrd hlt8
          go_wp2_with (go_at_call 16; refine HRD.out.mono ?_; rintro e w9 ⟨rfl, b9⟩; have S9 := hid (S8.out.below b9); have hca9 := (b9.cell (p := ⟨gb, o, none⟩) hgb).trans hca; have R9 := hid (R8.out.kept (row := none) ⟨b9.os, b9.tape, b9.output, b9.size, fun k hk _ => b9.block k hk⟩ (by simp) (by simp)); clear b9)
          go_roundw
          case rel => exact ⟨_, _, R9.out, S9.out⟩
          case measure => rw [R9.out.left_eq, RG.out.left_eq]; exact HLT.out
end Go.Proofs.YtemakgklldlbnaaDoor.Dk

