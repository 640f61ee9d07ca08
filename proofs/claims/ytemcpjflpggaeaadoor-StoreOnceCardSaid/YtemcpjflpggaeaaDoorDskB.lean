import Derived.Test.YtemcpjflpggaeaaDoorDskA
set_option linter.unusedSimpArgs false
set_option linter.unusedVariables false
namespace Go.Proofs.YtemcpjflpggaeaaDoor.Dk
open Go.RowKit

/-- A list in memory. -/
def Lst (w : World) (v : Value) (xs : List Value) : Prop := ∃ a c, v = .slice a xs.length c ∧ (xs = [] ∨ ∃ b o, a = some ⟨b, o, none⟩ ∧ b < w.heap.size ∧ w.rangeAt b o xs)
theorem Lst.mv {w w' : World} {v : Value} {xs : List Value} (h : Lst w v xs) (hs : w.heap.size ≤ w'.heap.size) (hb : ∀ k, v.ownBlock = some k → w'.heap[k]? = w.heap[k]?) : Lst w' v xs := by
  obtain ⟨a, c, rfl, h⟩ := h
  refine ⟨a, c, rfl, ?_⟩
  rcases h with h | ⟨b, o, rfl, hl, hr⟩
  · exact Or.inl h
  · exact Or.inr ⟨b, o, rfl, Nat.lt_of_lt_of_le hl hs, fun j v hv => (World.cell?_of_block (w := w) (hb b rfl)).trans (hr j v hv)⟩
theorem Lst.below {w w' : World} {v : Value} {xs : List Value} (h : Lst w v xs) (hb : Below w.heap.size w w') : Lst w' v xs := by
  obtain ⟨a, c, rfl, h⟩ := h
  refine ⟨a, c, rfl, ?_⟩
  rcases h with h | ⟨b, o, rfl, hl, hr⟩
  · exact Or.inl h
  · exact Or.inr ⟨b, o, rfl, Nat.lt_of_lt_of_le hl hb.size, fun j v hv => (hb.cell (p := ⟨b, o + j, none⟩) hl).trans (hr j v hv)⟩
theorem Lst.keep {X : List Nat} {w w' : World} {v : Value} {xs : List Value} (h : Lst w v xs) (hb : Keep X w w') (hX : ∀ k ∈ X, v.ownBlock ≠ some k ∨ w.heap.size ≤ k) : Lst w' v xs := by
  obtain ⟨a, c, rfl, h⟩ := h
  refine ⟨a, c, rfl, ?_⟩
  rcases h with h | ⟨b, o, rfl, hl, hr⟩
  · exact Or.inl h
  · exact Or.inr ⟨b, o, rfl, Nat.lt_of_lt_of_le hl hb.size, fun j v hv => (World.cell?_of_block (w := w) (a := ⟨b, o + j, none⟩) (hb.block b hl (fun q => by rcases hX b q with q | q; exact q rfl; omega))).trans (hr j v hv)⟩
theorem Lst.keep2 {X : List Nat} {w w' : World} {v : Value} {xs : List Value} (h : Lst w v xs) (hb : Keep X w w') (hX : xs = [] ∨ ∀ k ∈ X, v.ownBlock ≠ some k) : Lst w' v xs := by
  rcases hX with hX | hX
  · obtain ⟨a, c, e, -⟩ := h
    exact ⟨a, c, e, Or.inl hX⟩
  · exact h.keep hb (fun k hk => Or.inl (hX k hk))
theorem Lst.at {w : World} {a : Option Addr} {n c : Nat} {xs : List Value} (h : Lst w (.slice a n c) xs) (hn : 0 < n) : n = xs.length ∧ ∃ b o, a = some ⟨b, o, none⟩ ∧ b < w.heap.size ∧ w.rangeAt b o xs := by
  obtain ⟨a', c', e, h⟩ := h
  injection e with e1 e2 e3
  subst e1 e2 e3
  rcases h with rfl | h
  · simp at hn
  · exact ⟨rfl, h⟩
def bl (l : List Bool) : List Value := l.map Value.bool
/-- What a power cut keeps. -/
def keptL (l : List Bool) (i : Nat) : Bool := l[i]?.getD false
set_option maxHeartbeats 400000 in
theorem crash1_any (X : Nat) (v : Value) (l : List Bool) (k : Nat) (w : World) (hX : w.cell? ⟨X, 0, none⟩ = some v) (hL : Lst w v (bl l)) (hk : k ≤ 1000000) (hl : l.length ≤ 1000000) : Calls Tryd.prog 45 #[.int .i64 k, .pointer (some ⟨X, 0, none⟩)] w fun e w' => e = .returned (.bool (keptL l k)) ∧ w' = w := by
  obtain ⟨a, c, rfl, h⟩ := hL
  have hbl : (bl l).length = l.length := by simp [bl]
  rw [hbl] at hX
  by_cases hlt : k < l.length
  · rcases h with h | ⟨b, o, rfl, hlb, hr⟩
    · simp [bl] at h
      subst h
      simp at hlt
    · have ck := hr k (.bool l[k]) (by simp [bl, List.getElem?_eq_getElem hlt])
      have HP := hid (show keptL l k = l[k] by simp [keptL, List.getElem?_eq_getElem hlt])
      go_enter Tryd.func45, Tryd.ntmps45
      go_wp2
      go_ret
      exact ⟨ret_bool HP.out.symm, rfl⟩
  · have HP := hid (show keptL l k = false by simp [keptL]; rw [List.getElem?_eq_none (by omega)]; rfl)
    go_enter Tryd.func45, Tryd.ntmps45
    go_wp2
    go_ret
    exact ⟨ret_bool HP.out.symm, rfl⟩
theorem own_range {w : World} {g cap n : Nat} {ws : List (Nat × Bs)} {e : TypeId} (h : w.ownsRow 0 e 65 (.slice (some ⟨g, 0, none⟩) n cap) n (flatW ws)) (hw : ∀ x ∈ ws, x.2.length = 64) (k : Nat) (hk : k < ws.length) : w.rangeAt g (k * 65) (wcell ws[k]) := by
  obtain ⟨-, ⟨h1, -⟩ | ⟨g', cap', cur, e, hB, hh, hn, hm, hs, ht⟩⟩ := h
  · cases h1
  injection e with e1 e2 e3
  injection e1 with e1
  injection e1 with e1
  subst e1
  intro j v hv
  have hx := flatW_at ws k j v hk hw hv
  rw [← ht, List.getElem?_take] at hx
  split at hx
  · simp only [World.cell?, hh]
    simpa using hx
  · cases hx
theorem info_w : (Tryd.prog.info? 77).map (·.size) = some 65 := by kernel_rfl
theorem info_s : (Tryd.prog.info? 75).map (·.size) = some 64 := by kernel_rfl
theorem wcell_len {x : Nat × Bs} (h : x.2.length = 64) : (wcell x).length = 65 := by rw [wcell, List.length_cons, bc_len, h]
theorem own_keep {X : List Nat} {w w' : World} {base : Nat} {e : TypeId} {size : Nat} {v : Value} {n : Nat} {xs : List Value} (h : w.ownsRow base e size v n xs) (hk : Keep X w w') (hX : ∀ g, v.ownBlock = some g → g ∉ X) : w'.ownsRow base e size v n xs := by
  have hl := fun g => own_lt (g := g) h
  obtain ⟨h1, h2⟩ := h
  refine ⟨h1, ?_⟩
  rcases h2 with h2 | ⟨g, cap, cur, rfl, hB, hh, hr⟩
  · exact Or.inl h2
  · exact Or.inr ⟨g, cap, cur, rfl, hB, (hk.block g (hl g rfl) (hX g rfl)).trans hh, hr⟩
theorem over_all (vs us : List Value) (h : vs.length = us.length) : overL vs 0 us = us := by
  have := over_app us [] vs (by omega)
  simp only [List.nil_append, List.length_nil] at this
  rw [this, List.drop_eq_nil_of_le (by omega)]
  simp
theorem zero_len : (Tryd.zeroCells77).toList.length = 65 := by kernel_rfl
theorem blk_zero (w : World) : Blk (w.alloc (.cells Tryd.zeroCells77 77)) w.heap.size (Tryd.zeroCells77).toList := by
  have := Blk.new w (Tryd.zeroCells77).toList 77 _ rfl
  simpa only [Array.toArray_toList] using this
def allK : Nat → Bool := fun _ => true
theorem over_behind : ∀ (us a b : List Value) (o : Nat), overL (a ++ b) (a.length + o) us = a ++ overL b o us
  | [], _, _, _ => rfl
  | u :: r, a, b, o => by
    rw [overL, overL, List.set_append_right _ _ (by omega), show a.length + o - a.length = o by omega]
    exact over_behind r a (b.set o u) (o + 1)
theorem flat_set : ∀ (l : List Bs) (k : Nat) (t : Bs), (∀ s ∈ l, s.length = 64) → t.length = 64 → k < l.length → overL (flat l) (k * 64) (bc t) = flat (l.set k t)
  | [], k, t, _, _, hk => by simp at hk
  | a :: r, 0, t, h, ht, _ => by
    have e : flat (a :: r) = bc a ++ flat r := rfl
    have e2 : flat ((a :: r).set 0 t) = bc t ++ flat r := rfl
    have := over_app (bc t) [] (bc a ++ flat r) (by rw [List.length_append, bc_len, bc_len, h a (by simp), ht]; omega)
    rw [e, e2, Nat.zero_mul]
    simp only [List.nil_append, List.length_nil] at this
    rw [this, List.drop_append, bc_len, bc_len, h a (by simp), ht, List.drop_eq_nil_of_le (by rw [bc_len, h a (by simp)]; omega)]
    simp
  | a :: r, k + 1, t, h, ht, hk => by
    have e : flat (a :: r) = bc a ++ flat r := rfl
    have e2 : flat ((a :: r).set (k + 1) t) = bc a ++ flat (r.set k t) := rfl
    have ih := flat_set r k t (fun s hs => h s (by simp [hs])) ht (by simpa using hk)
    have ea : (bc a).length = 64 := by rw [bc_len, h a (by simp)]
    rw [e, e2, ← ih, show (k + 1) * 64 = (bc a).length + k * 64 by rw [ea]; omega]
    exact over_behind (bc t) (bc a) (flat r) (k * 64)


theorem settle_one (kept : Nat → Bool) (sure : List Bs) (ws : List (Nat × Bs)) (k : Nat) (hk : k < ws.length) : settleL kept 0 sure (ws.take (k + 1)) = (if kept k then (settleL kept 0 sure (ws.take k)).set ws[k].1 ws[k].2 else settleL kept 0 sure (ws.take k)) := by
  rw [List.take_succ_eq_append_getElem hk, settle_snoc, List.length_take, Nat.min_eq_left (by omega), Nat.zero_add]
set_option maxRecDepth 100000 in
set_option maxHeartbeats 1600000 in
theorem settle_sync (D S : Nat) (vw : Value) (d : St) (w : World) (h : At w D S vw d)  : Calls Tryd.prog 42 #[.pointer (some ⟨D, 0, none⟩), .func (.func 43) #[] #[]] w fun e w' => e = .returned (.tuple #[]) ∧ At w' D S (.slice none 0 0) (d.settled allK) ∧ Keep [D, S] w w' := by
  have H := hid h
  obtain ⟨va, vc, hv, hvc⟩ := own_form h.own
  subst hv
  have c1 := h.c1
  have h0 : d.ws.length ≤ 1000000 := h.ok.few
  have hfl := hid (flat_len d.sure h.ok.s64)
  have hKK : ∀ (i : Nat) (W : World), i ≤ 1000000 → Keep [S] w W → Calls Tryd.prog 43 (#[.int .i64 i] ++ #[]) W fun e w' => e = .returned (.bool (allK i)) ∧ w' = W := by
    intro i W hi hk
    simpa [allK] using sync1_any i W
  have HK := hid hKK
  clear hKK
  go_enter Tryd.func42, Tryd.ntmps42
  go_wp2
  go_loopw [11] (fun i wr => ∃ k : Nat, k ≤ d.ws.length ∧ i = .int .i64 k ∧ Blk wr S (flat (settleL allK 0 d.sure (d.ws.take k))) ∧ Keep [S] w wr) (fun i wr => d.ws.length - (intOf i).toNat)
  case atStart => exact ⟨0, Nat.zero_le _, rfl, by simpa [settleL] using H.out.body, Keep.refl _ _⟩
  case round =>
    obtain ⟨k, hk, rfl, hbs, hkp⟩ := hrel
    have BS := hid hbs
    have KP := hid hkp
    clear hbs hkp
    have HS64 := hid (settle_64 allK (d.ws.take k) 0 d.sure (fun x hx => (H.out.ok.wok x (List.mem_of_mem_take hx)).2) H.out.ok.s64)
    by_cases hlt : k < d.ws.length
    · obtain ⟨g, cap, e, -, hgl⟩ := H.out.own.form (by omega)
      injection e with e1 e2 e3
      subst e1
      subst e3
      obtain ⟨x, hx⟩ : ∃ x, d.ws[k] = x := ⟨_, rfl⟩
      have HX := hid hx
      have hxo := H.out.ok.wok x (by rw [← hx]; exact List.getElem_mem hlt)
      have HR := hid (own_range (own_keep H.out.own KP.out (fun g' hg' hm => by simp only [List.mem_singleton] at hm; rw [hm] at hg'; exact H.out.ws hg')) (fun x hx => (H.out.ok.wok x hx).2) k hlt)
      rw [hx] at HR
      clear hx
      go_wp2_with (first | (refine wpList_load_mid rfl 77 (.tmp 14) rfl g (k * 65) rfl (wcell x) _ HR.out Tryd.underlying77 rfl (by rw [wcell_len hxo.2]; exact info_w) ?_) | (refine wpList_store_mid rfl 77 (.tmp 5) (.tmp 15) rfl wr.heap.size 0 (wcell x).toArray rfl rfl ((blk_zero wr).there (by rw [List.size_toArray, wcell_len hxo.2]; exact Nat.le_of_eq zero_len.symm)) (by rw [List.size_toArray, wcell_len hxo.2]; exact info_w) (all_oneCell_toArray (wcell_one x)) ?_) | (go_at_call 43; fail))
      obtain ⟨w1, hw1⟩ : ∃ w1, World.setCells (wr.alloc (.cells Tryd.zeroCells77 77)) wr.heap.size 0 (wcell x) = w1 := ⟨_, rfl⟩
      have hK1 : Keep [] wr w1 := by rw [← hw1]; exact Keep.sets _ _ ((Keep.refl [] wr).alloc _) (Or.inr (Nat.le_refl _))
      have hX1 : Blk w1 wr.heap.size (wcell x) := by
        have := (blk_zero wr).sets (wcell x) 0
        rw [over_all _ _ (by rw [zero_len, wcell_len hxo.2]), hw1] at this
        exact this
      have hS1 := BS.out.keep hK1 (by simp)
      have hW1 := KP.out.then hK1 (by simp)
      have hD1 := H.out.head.keep hW1 (by simpa using H.out.ds)
      have hDl := hD1.lt
      have d0 := hD1.cell 0 rfl
      have x0 := hX1.cell 0 (v := .int .i64 x.1) rfl
      rw [hw1]
      obtain ⟨q, hq⟩ : ∃ q, allK k = q := ⟨_, rfl⟩
      have HQ := hid hq
      have HC := hid (HK.out k w1 (by omega) hW1)
      rw [hq] at HC
      have HS1 := hid hS1
      have HX1 := hid hX1
      have HW1 := hid hW1
      clear hq hw1 hS1 hX1 hW1 hK1
      have hn := hid (settle_one allK d.sure d.ws k hlt)
      rw [HQ.out, HX.out] at hn
      cases q with
      | false =>
        refine HC.out.mono ?_
        rintro e w2 ⟨rfl, rfl⟩
        go_wp2
        go_roundw
        case rel => exact ⟨k + 1, by omega, by go_num, by rw [hn.out]; exact HS1.out, HW1.out⟩
        case measure => simp [intOf]; omega
      | true =>
        refine HC.out.mono ?_
        rintro e w2 ⟨rfl, rfl⟩
        go_wp2
        obtain ⟨cs, hcs⟩ : ∃ cs, bc x.2 = cs := ⟨_, rfl⟩
        have hu78 := Tryd.underlying75
        have hcl : cs.length = 64 := by rw [← hcs, bc_len, hxo.2]
        have hi78 : (Tryd.prog.info? 75).map (·.size) = some cs.length := by rw [hcl]; exact info_s
        have hc1 : ∀ v ∈ cs, v.oneCell' = true := by rw [← hcs]; exact bc_one x.2
        have hra : w2.rangeAt wr.heap.size 1 cs := by rw [← hcs]; exact HX1.out.range (fun j v hv => by rw [Nat.add_comm]; exact hv)
        have hth : w2.there S (x.1 * 64) 64 := HS1.out.there (by rw [flat_len _ HS64.out, settle_len]; have := hxo.1; omega)
        have hne : wr.heap.size ≠ S := Nat.ne_of_gt BS.out.lt
        have HZ : Hid ((w2.drew.setCells S (x.1 * 64) cs).rangeAt wr.heap.size 1 cs ∧ (w2.drew.setCells S (x.1 * 64) cs).cell? ⟨D, 0, none⟩ = some (.slice (some ⟨S, 0, none⟩) d.sure.length d.sure.length) ∧ (w2.drew.setCells S (x.1 * 64) cs).cell? ⟨wr.heap.size, 0, none⟩ = some (.int .i64 x.1) ∧ (w2.drew.setCells S (x.1 * 64) cs).there S (x.1 * 64) 64) := by
          have q1 := Blk.others cs (x.1 * 64) (HX1.out.block (w' := w2.drew) rfl) hne
          refine hid ⟨by rw [← hcs] at q1 ⊢; exact q1.range (fun j v hv => by rw [Nat.add_comm]; exact hv), (Blk.others cs (x.1 * 64) (hD1.block (w' := w2.drew) rfl) H.out.ds).cell 0 rfl, q1.cell 0 rfl, World.there_setCells ((World.there_drew _ _ _ _).2 hth) _ _ _⟩
        have HCS := hid hcs
        clear hcs
        go_region_held3 (fun w' => w'.rangeAt wr.heap.size 1 cs ∧ w'.cell? ⟨D, 0, none⟩ = some (.slice (some ⟨S, 0, none⟩) d.sure.length d.sure.length) ∧ w'.cell? ⟨wr.heap.size, 0, none⟩ = some (.int .i64 x.1) ∧ w'.there S (x.1 * 64) 64) (first | exact HZ.out | exact ⟨(World.rangeAt_drew _ _ _ _).2 hra, d0, x0, (World.there_drew _ _ _ _).2 hth⟩) (fail)
        go_wp2
        go_roundw
        case rel =>
          refine ⟨k + 1, by omega, by go_num, ?_, Keep.sets _ _ HW1.out.drew (Or.inl (by simp))⟩
          rw [hn.out, if_pos trivial]
          have := (HS1.out.block (w' := w2.drew) rfl).sets cs (x.1 * 64)
          rw [← HCS.out, flat_set _ _ _ HS64.out hxo.2 (by rw [settle_len]; exact hxo.1)] at this
          rw [← HCS.out]
          exact this
        case measure => simp [intOf]; omega
    · obtain rfl : k = d.ws.length := by omega
      have d1 := H.out.head.keep KP.out (by simpa using H.out.ds)
      have c1' := d1.cell 1 rfl
      have f1' := d1.fz 1
      have HD1 := hid d1
      clear d1
      go_wp2
      go_end0
      have hb := BS.out
      rw [List.take_of_length_le (Nat.le_refl _)] at hb
      refine ⟨rfl, ⟨?_, hb.other _ _ H.out.ds.symm, ?_, H.out.ds, by simp [Value.ownBlock], by simp [Value.ownBlock], ok_settled H.out.ok _⟩, ?_⟩
      · have := HD1.out.set 1 (.slice none 0 0)
        simpa [St.settled, settle_len] using this
      · exact ⟨by simp [St.settled, flatW], Or.inl ⟨rfl, rfl⟩⟩
      · exact (KP.out.sub (Y := [D, S]) (by intro x hx; simp at hx; simp [hx])).set _ _ _ (Or.inl (by simp))
set_option maxRecDepth 100000 in
set_option maxHeartbeats 1600000 in
theorem settle_crash (D S : Nat) (vw : Value) (d : St) (w : World) (h : At w D S vw d) (X : Nat) (v : Value) (l : List Bool) (hX : w.cell? ⟨X, 0, none⟩ = some v) (hL : Lst w v (bl l)) (hl : l.length ≤ 1000000) (hXS : X ≠ S) (hvS : l = [] ∨ v.ownBlock ≠ some S) : Calls Tryd.prog 42 #[.pointer (some ⟨D, 0, none⟩), .func (.func 45) #[] #[.pointer (some ⟨X, 0, none⟩)]] w fun e w' => e = .returned (.tuple #[]) ∧ At w' D S (.slice none 0 0) (d.settled (keptL l)) ∧ Keep [D, S] w w' := by
  have H := hid h
  obtain ⟨va, vc, hv, hvc⟩ := own_form h.own
  subst hv
  have c1 := h.c1
  have h0 : d.ws.length ≤ 1000000 := h.ok.few
  have hfl := hid (flat_len d.sure h.ok.s64)
  have hKK : ∀ (i : Nat) (W : World), i ≤ 1000000 → Keep [S] w W → Calls Tryd.prog 45 (#[.int .i64 i] ++ #[.pointer (some ⟨X, 0, none⟩)]) W fun e w' => e = .returned (.bool ((keptL l) i)) ∧ w' = W := by
    intro i W hi hk
    have hXl : X < w.heap.size := World.block_lt_of_cell? w _ hX
    refine crash1_any X v l i W ?_ (hL.keep2 hk (by rcases hvS with q | q; exact Or.inl (by rw [q]; rfl); exact Or.inr (fun k hk' => by simp only [List.mem_singleton] at hk'; rw [hk']; exact q))) hi hl
    exact (World.cell?_of_block (w := w) (a := ⟨X, 0, none⟩) (hk.block X hXl (by simpa using hXS))).trans hX
  have HK := hid hKK
  clear hKK
  go_enter Tryd.func42, Tryd.ntmps42
  go_wp2
  go_loopw [11] (fun i wr => ∃ k : Nat, k ≤ d.ws.length ∧ i = .int .i64 k ∧ Blk wr S (flat (settleL (keptL l) 0 d.sure (d.ws.take k))) ∧ Keep [S] w wr) (fun i wr => d.ws.length - (intOf i).toNat)
  case atStart => exact ⟨0, Nat.zero_le _, rfl, by simpa [settleL] using H.out.body, Keep.refl _ _⟩
  case round =>
    obtain ⟨k, hk, rfl, hbs, hkp⟩ := hrel
    have BS := hid hbs
    have KP := hid hkp
    clear hbs hkp
    have HS64 := hid (settle_64 (keptL l) (d.ws.take k) 0 d.sure (fun x hx => (H.out.ok.wok x (List.mem_of_mem_take hx)).2) H.out.ok.s64)
    by_cases hlt : k < d.ws.length
    · obtain ⟨g, cap, e, -, hgl⟩ := H.out.own.form (by omega)
      injection e with e1 e2 e3
      subst e1
      subst e3
      obtain ⟨x, hx⟩ : ∃ x, d.ws[k] = x := ⟨_, rfl⟩
      have HX := hid hx
      have hxo := H.out.ok.wok x (by rw [← hx]; exact List.getElem_mem hlt)
      have HR := hid (own_range (own_keep H.out.own KP.out (fun g' hg' hm => by simp only [List.mem_singleton] at hm; rw [hm] at hg'; exact H.out.ws hg')) (fun x hx => (H.out.ok.wok x hx).2) k hlt)
      rw [hx] at HR
      clear hx
      go_wp2_with (first | (refine wpList_load_mid rfl 77 (.tmp 14) rfl g (k * 65) rfl (wcell x) _ HR.out Tryd.underlying77 rfl (by rw [wcell_len hxo.2]; exact info_w) ?_) | (refine wpList_store_mid rfl 77 (.tmp 5) (.tmp 15) rfl wr.heap.size 0 (wcell x).toArray rfl rfl ((blk_zero wr).there (by rw [List.size_toArray, wcell_len hxo.2]; exact Nat.le_of_eq zero_len.symm)) (by rw [List.size_toArray, wcell_len hxo.2]; exact info_w) (all_oneCell_toArray (wcell_one x)) ?_) | (go_at_call 45; fail))
      obtain ⟨w1, hw1⟩ : ∃ w1, World.setCells (wr.alloc (.cells Tryd.zeroCells77 77)) wr.heap.size 0 (wcell x) = w1 := ⟨_, rfl⟩
      have hK1 : Keep [] wr w1 := by rw [← hw1]; exact Keep.sets _ _ ((Keep.refl [] wr).alloc _) (Or.inr (Nat.le_refl _))
      have hX1 : Blk w1 wr.heap.size (wcell x) := by
        have := (blk_zero wr).sets (wcell x) 0
        rw [over_all _ _ (by rw [zero_len, wcell_len hxo.2]), hw1] at this
        exact this
      have hS1 := BS.out.keep hK1 (by simp)
      have hW1 := KP.out.then hK1 (by simp)
      have hD1 := H.out.head.keep hW1 (by simpa using H.out.ds)
      have hDl := hD1.lt
      have d0 := hD1.cell 0 rfl
      have x0 := hX1.cell 0 (v := .int .i64 x.1) rfl
      rw [hw1]
      obtain ⟨q, hq⟩ : ∃ q, (keptL l) k = q := ⟨_, rfl⟩
      have HQ := hid hq
      have HC := hid (HK.out k w1 (by omega) hW1)
      rw [hq] at HC
      have HS1 := hid hS1
      have HX1 := hid hX1
      have HW1 := hid hW1
      clear hq hw1 hS1 hX1 hW1 hK1
      have hn := hid (settle_one (keptL l) d.sure d.ws k hlt)
      rw [HQ.out, HX.out] at hn
      cases q with
      | false =>
        refine HC.out.mono ?_
        rintro e w2 ⟨rfl, rfl⟩
        go_wp2
        go_roundw
        case rel => exact ⟨k + 1, by omega, by go_num, by rw [hn.out]; exact HS1.out, HW1.out⟩
        case measure => simp [intOf]; omega
      | true =>
        refine HC.out.mono ?_
        rintro e w2 ⟨rfl, rfl⟩
        go_wp2
        obtain ⟨cs, hcs⟩ : ∃ cs, bc x.2 = cs := ⟨_, rfl⟩
        have hu78 := Tryd.underlying75
        have hcl : cs.length = 64 := by rw [← hcs, bc_len, hxo.2]
        have hi78 : (Tryd.prog.info? 75).map (·.size) = some cs.length := by rw [hcl]; exact info_s
        have hc1 : ∀ v ∈ cs, v.oneCell' = true := by rw [← hcs]; exact bc_one x.2
        have hra : w2.rangeAt wr.heap.size 1 cs := by rw [← hcs]; exact HX1.out.range (fun j v hv => by rw [Nat.add_comm]; exact hv)
        have hth : w2.there S (x.1 * 64) 64 := HS1.out.there (by rw [flat_len _ HS64.out, settle_len]; have := hxo.1; omega)
        have hne : wr.heap.size ≠ S := Nat.ne_of_gt BS.out.lt
        have HZ : Hid ((w2.drew.setCells S (x.1 * 64) cs).rangeAt wr.heap.size 1 cs ∧ (w2.drew.setCells S (x.1 * 64) cs).cell? ⟨D, 0, none⟩ = some (.slice (some ⟨S, 0, none⟩) d.sure.length d.sure.length) ∧ (w2.drew.setCells S (x.1 * 64) cs).cell? ⟨wr.heap.size, 0, none⟩ = some (.int .i64 x.1) ∧ (w2.drew.setCells S (x.1 * 64) cs).there S (x.1 * 64) 64) := by
          have q1 := Blk.others cs (x.1 * 64) (HX1.out.block (w' := w2.drew) rfl) hne
          refine hid ⟨by rw [← hcs] at q1 ⊢; exact q1.range (fun j v hv => by rw [Nat.add_comm]; exact hv), (Blk.others cs (x.1 * 64) (hD1.block (w' := w2.drew) rfl) H.out.ds).cell 0 rfl, q1.cell 0 rfl, World.there_setCells ((World.there_drew _ _ _ _).2 hth) _ _ _⟩
        have HCS := hid hcs
        clear hcs
        go_region_held3 (fun w' => w'.rangeAt wr.heap.size 1 cs ∧ w'.cell? ⟨D, 0, none⟩ = some (.slice (some ⟨S, 0, none⟩) d.sure.length d.sure.length) ∧ w'.cell? ⟨wr.heap.size, 0, none⟩ = some (.int .i64 x.1) ∧ w'.there S (x.1 * 64) 64) (first | exact HZ.out | exact ⟨(World.rangeAt_drew _ _ _ _).2 hra, d0, x0, (World.there_drew _ _ _ _).2 hth⟩) (fail)
        go_wp2
        go_roundw
        case rel =>
          refine ⟨k + 1, by omega, by go_num, ?_, Keep.sets _ _ HW1.out.drew (Or.inl (by simp))⟩
          rw [hn.out, if_pos trivial]
          have := (HS1.out.block (w' := w2.drew) rfl).sets cs (x.1 * 64)
          rw [← HCS.out, flat_set _ _ _ HS64.out hxo.2 (by rw [settle_len]; exact hxo.1)] at this
          rw [← HCS.out]
          exact this
        case measure => simp [intOf]; omega
    · obtain rfl : k = d.ws.length := by omega
      have d1 := H.out.head.keep KP.out (by simpa using H.out.ds)
      have c1' := d1.cell 1 rfl
      have f1' := d1.fz 1
      have HD1 := hid d1
      clear d1
      go_wp2
      go_end0
      have hb := BS.out
      rw [List.take_of_length_le (Nat.le_refl _)] at hb
      refine ⟨rfl, ⟨?_, hb.other _ _ H.out.ds.symm, ?_, H.out.ds, by simp [Value.ownBlock], by simp [Value.ownBlock], ok_settled H.out.ok _⟩, ?_⟩
      · have := HD1.out.set 1 (.slice none 0 0)
        simpa [St.settled, settle_len] using this
      · exact ⟨by simp [St.settled, flatW], Or.inl ⟨rfl, rfl⟩⟩
      · exact (KP.out.sub (Y := [D, S]) (by intro x hx; simp at hx; simp [hx])).set _ _ _ (Or.inl (by simp))

theorem blocks_none (D S : Nat) : blocks D S (.slice none 0 0) = [D, S] := rfl
/-- Sync. -/
theorem live_burnt {d : St} : d.burnt.sure = d.sure ∧ d.burnt.ws = d.ws := ⟨rfl, rfl⟩
set_option maxHeartbeats 800000 in
theorem sync_dead (D S : Nat) (vw : Value) (d : St) (w : World) (h : At w D S vw d) (hl : d.live = false) : Calls Tryd.prog 15 #[.pointer (some ⟨D, 0, none⟩)] w fun e w' => e = .returned (.iface 52 (.int .i64 14)) ∧ At w' D S vw d.burnt ∧ Keep [D, S] w w' := by
  have HB := hid (burn_any D S vw d w h)
  clear h
  rw [hl] at HB
  go_enter Tryd.func15, Tryd.ntmps15
  go_wp2_with (first | (go_at_call 41; refine HB.out.mono ?_; rintro e w1 ⟨rfl, h1, k1, z1⟩))
  go_ret
  exact ⟨rfl, h1, k1.sub (by intro x hx; simp at hx; simp [hx])⟩
set_option maxHeartbeats 800000 in
theorem sync_live (D S : Nat) (vw : Value) (d : St) (w : World) (h : At w D S vw d) (hl : d.live = true) : Calls Tryd.prog 15 #[.pointer (some ⟨D, 0, none⟩)] w fun e w' => e = .returned .nilIface ∧ At w' D S (.slice none 0 0) (d.burnt.settled allK) ∧ Keep [D, S] w w' := by
  have HB := hid (burn_any D S vw d w h)
  have HS := hid (fun (W : World) (h' : At W D S vw d.burnt) => settle_sync D S vw d.burnt W h')
  clear h
  rw [hl] at HB
  go_enter Tryd.func15, Tryd.ntmps15
  go_wp2_with (first | (go_at_call 41; refine HB.out.mono ?_; rintro e w1 ⟨rfl, h1, k1, z1⟩) | (go_at_call 42; refine (HS.out _ h1).mono ?_; rintro e w2 ⟨rfl, h2, k2⟩))
  go_ret
  exact ⟨rfl, h2, (k1.sub (by intro x hx; simp at hx; simp [hx])).then k2 (fun y hy => Or.inl hy)⟩
set_option maxHeartbeats 800000 in
theorem crash_any (D S : Nat) (vw v : Value) (d : St) (l : List Bool) (w : World) (h : At w D S vw d) (hL : Lst w v (bl l)) (hl : l.length ≤ 1000000) (hvS : l = [] ∨ v.ownBlock ≠ some S) : Calls Tryd.prog 17 #[.pointer (some ⟨D, 0, none⟩), v] w fun e w' => e = .returned (.tuple #[]) ∧ At w' D S (.slice none 0 0) ⟨(d.settled (keptL l)).sure, [], -1⟩ ∧ Keep [D, S] w w' := by
  have hSl := h.body.lt
  have H1 := hid (h.alloc (.cells #[v] 24))
  have L1 := hid (hL.below ((Below.refl _ w).alloc (Nat.le_refl _) (.cells #[v] 24)))
  have HX := hid (show (w.alloc (.cells #[v] 24)).cell? ⟨w.heap.size, 0, none⟩ = some v by simp)
  have HS := hid (settle_crash D S vw d _ H1.out w.heap.size v l HX.out L1.out hl (by omega) hvS)
  obtain ⟨va, vc, hv, -⟩ := hL
  subst hv
  clear h
  go_enter Tryd.func17, Tryd.ntmps17
  go_wp2_with (first | (go_at_call 42; refine HS.out.mono ?_; rintro e w2 ⟨rfl, h2, k2⟩; have c2 := h2.c2; have f2 := h2.head.fz 2))
  go_end0
  exact ⟨rfl, h2.fused (-1) (by omega) (by omega), ((((Keep.refl [D, S] w).alloc _).then k2 (fun y hy => Or.inl hy)).set _ _ _ (Or.inl (by simp)))⟩
set_option maxHeartbeats 400000 in
theorem size_any (D S : Nat) (vw : Value) (d : St) (w : World) (h : At w D S vw d) : Calls Tryd.prog 55 #[.pointer (some ⟨D, 0, none⟩)] w fun e w' => e = .returned (.int .i64 d.sure.length) ∧ w' = w := by
  have c0 := h.c0
  go_enter Tryd.func55, Tryd.ntmps55
  go_wp2
  go_ret
  exact ⟨rfl, rfl⟩
end Go.Proofs.YtemcpjflpggaeaaDoor.Dk
