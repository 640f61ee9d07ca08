import Derived.Test.YtgmngifnilmheaaDoorDskM
set_option linter.unusedSimpArgs false
set_option linter.unusedVariables false
namespace Go.Proofs.YtgmngifnilmheaaDoor.Dk
open Go.RowKit

theorem rsync1_any (k : Int) (w : World) : Calls Tryd.prog 43 #[.int .i64 k] w fun e w' => e = .returned (.bool true) ∧ w' = w := by
  go_enter Tryd.func43, Tryd.ntmps43
  go_wp2
  go_ret
  exact ⟨rfl, rfl⟩
set_option maxHeartbeats 400000 in
theorem rcrash1_any (X : Nat) (v : Value) (l : List Bool) (k : Nat) (w : World) (hX : w.cell? ⟨X, 0, none⟩ = some v) (hL : Lst w v (bl l)) (hk : k ≤ 1000000) (hl : l.length ≤ 1000000) : Calls Tryd.prog 45 #[.int .i64 k, .pointer (some ⟨X, 0, none⟩)] w fun e w' => e = .returned (.bool (keptL l k)) ∧ w' = w := by
  obtain ⟨a, c, rfl, h⟩ := hL
  have hbl : (bl l).length = l.length := by simp [bl]
  rw [hbl] at hX
  by_cases hlt : k < l.length
  · rcases h with h | ⟨b, o, rfl, hlb, hr⟩
    · simp [bl] at h
      subst h
      simp at hlt
    · have ck := hr k (.bool l[k]) (by simp [bl, List.getElem?_eq_getElem hlt])
      have HP := hid (show keptL l k = l[k] by simp [keptL, List.getElem?_eq_getElem hlt])
      go_enter Tryd.func45, Tryd.ntmps45
      go_wp2
      go_ret
      exact ⟨ret_bool HP.out.symm, rfl⟩
  · have HP := hid (show keptL l k = false by simp [keptL]; rw [List.getElem?_eq_none (by omega)]; rfl)
    go_enter Tryd.func45, Tryd.ntmps45
    go_wp2
    go_ret
    exact ⟨ret_bool HP.out.symm, rfl⟩
theorem sur_len (l : List Bs) : (surL l).length = l.length := by simp [surL]
theorem sur_set (l : List Bs) (k : Nat) (t : Bs) : (st (surL l)).set k (.string (tx t)) = st (surL (l.set k t)) := by simp [st, surL]
theorem sur_at (l : List Bs) (k : Nat) (h : k < l.length) : (st (surL l))[k]? = some (.string (tx l[k])) := by simp [st, surL, h]
theorem ats_at (l : List (Nat × Bs)) (k : Nat) (h : k < l.length) : (it (atsL l))[k]? = some (.int .i64 (l[k].1 : Int)) := by simp [it, atsL, h]
theorem txs_at (l : List (Nat × Bs)) (k : Nat) (h : k < l.length) : (st (txsL l))[k]? = some (.string (tx l[k].2)) := by simp [st, txsL, h]
theorem ok_part {d : St} (h : d.Ok) (kept : Nat → Bool) (k : Nat) : (⟨settleL kept 0 d.sure (d.ws.take k), d.ws, d.fuse⟩ : St).Ok :=
  ⟨by simpa [settle_len] using h.lo, by simpa [settle_len] using h.hi, settle_64 kept _ _ _ (fun x hx => (h.wok x (List.mem_of_mem_take hx)).2) h.s64, fun x hx => by rw [settle_len]; exact h.wok x hx, h.few, h.f0, h.f1⟩
theorem blk_put {w : World} {g i : Nat} {x : Value} {k : Nat} (hk : k ≠ g) : (w.setCell ⟨g, i, none⟩ x).heap[k]? = w.heap[k]? := Below.heap_setCell _ _ _ _ hk
theorem Ref.sured {w : World} {R gS n cap : Nat} {vA vW : Value} {d : St} {s' : List Bs} {k : Nat} {t : Bs} (h : Ref w R (.slice (some ⟨gS, 0, none⟩) n cap) vA vW d) (hs : d.sure.set k t = s') (hok : (⟨s', d.ws, d.fuse⟩ : St).Ok) : Ref (w.setCell ⟨gS, k, none⟩ (.string (tx t))) R (.slice (some ⟨gS, 0, none⟩) n cap) vA vW ⟨s', d.ws, d.fuse⟩ := by
  have e : d.sure.length = n := by
    obtain ⟨-, ⟨q, -⟩ | ⟨g', cap', cur, e, -⟩⟩ := h.oS
    · cases q
    · injection e with e1 e2 e3
      exact e2.symm
  have hS := h.oS
  rw [e] at hS
  have st1 := (hS.stored k (.string (tx t))).1
  rw [sur_set, hs] at st1
  have el : s'.length = n := by rw [← hs, List.length_set, e]
  refine ⟨h.head.other _ _ (fun q => h.rS (by rw [q]; rfl)), ?_, own_other h.oA _ _ _ (h.sa gS rfl), own_other h.oW _ _ _ (h.sw gS rfl), h.rS, h.rA, h.rW, h.sa, h.sw, h.aw, hok⟩
  show World.ownsRow _ 0 _ 1 _ s'.length (st (surL s'))
  rw [el]
  exact st1
set_option maxRecDepth 100000 in
set_option maxHeartbeats 1600000 in
theorem lose_sync (R : Nat) (vS vA vW : Value) (d : St) (w : World) (h : Ref w R vS vA vW d)  : Calls Tryd.prog 42 #[.pointer (some ⟨R, 0, none⟩), .func (.func 43) #[] #[]] w fun e w' => e = .returned (.tuple #[]) ∧ Ref w' R vS (.slice none 0 0) (.slice none 0 0) (d.settled allK) ∧ Keep (R :: vS.ownBlock.toList) w w' := by
  have H := hid h
  obtain ⟨gS, cS, hvS, -, hgS⟩ := h.oS.form (by have := h.ok.lo; omega)
  subst hvS
  obtain ⟨va, vc, hv, hvc⟩ := own_form h.oA
  subst hv
  have c1 := h.c1
  have h0 : d.ws.length ≤ 1000000 := h.ok.few
  have hKK : ∀ (i : Nat) (W : World), i ≤ 1000000 → Keep [gS] w W → Calls Tryd.prog 43 (#[.int .i64 i] ++ #[]) W fun e w' => e = .returned (.bool (allK i)) ∧ w' = W := by
    intro i W hi hk
    simpa [allK] using rsync1_any i W
  have HK := hid hKK
  clear hKK
  go_enter Tryd.func42, Tryd.ntmps42
  go_wp2
  go_loopw [11] (fun i wr => ∃ k : Nat, k ≤ d.ws.length ∧ i = .int .i64 k ∧ Ref wr R (.slice (some ⟨gS, 0, none⟩) d.sure.length cS) (.slice va d.ws.length vc) vW ⟨settleL allK 0 d.sure (d.ws.take k), d.ws, d.fuse⟩ ∧ Keep [gS] w wr) (fun i wr => d.ws.length - (intOf i).toNat)
  case atStart => exact ⟨0, Nat.zero_le _, rfl, H.out, Keep.refl _ _⟩
  case round =>
    obtain ⟨k, hk, rfl, hr, hkp⟩ := hrel
    have RR := hid hr
    have KP := hid hkp
    clear hr hkp
    by_cases hlt : k < d.ws.length
    · obtain ⟨gA, cA, e, -, -⟩ := RR.out.oA.form (by show 0 < d.ws.length; omega)
      injection e with e1 e2 e3
      subst e1
      obtain ⟨gW, cW, hvW, -, -⟩ := RR.out.oW.form (by show 0 < d.ws.length; omega)
      have hvW' : vW = .slice (some ⟨gW, 0, none⟩) d.ws.length cW := hvW
      subst hvW'
      clear hvW e2 e3
      obtain ⟨x, hx⟩ : ∃ x, d.ws[k] = x := ⟨_, rfl⟩
      have HX := hid hx
      have hxo := H.out.ok.wok x (by rw [← hx]; exact List.getElem_mem hlt)
      have a0 : wr.cell? ⟨gA, k, none⟩ = some (.int .i64 x.1) := by
        have := RR.out.oA.cellAt k (by show k < d.ws.length * 1; omega)
        rw [this]
        show (it (atsL d.ws))[k]? = _
        rw [ats_at d.ws k hlt, hx]
      have w0 : wr.cell? ⟨gW, k, none⟩ = some (.string (tx x.2)) := by
        have := RR.out.oW.cellAt k (by show k < d.ws.length * 1; omega)
        rw [this]
        show (st (txsL d.ws))[k]? = _
        rw [txs_at d.ws k hlt, hx]
      obtain ⟨q, hq⟩ : ∃ q, allK k = q := ⟨_, rfl⟩
      have HQ := hid hq
      have HC := hid (HK.out k wr (by omega) KP.out)
      rw [hq] at HC
      have hn := hid (settle_one allK d.sure d.ws k hlt)
      rw [HQ.out, HX.out] at hn
      have hkI : (k : Int) < (d.ws.length : Int) := by omega
      clear hq hx
      cases q with
      | false =>
        go_wp2_with (first | (go_at_call 43; refine HC.out.mono ?_; rintro e w2 ⟨rfl, rfl⟩))
        go_roundw
        case rel => exact ⟨k + 1, by omega, by go_num, by rw [hn.out]; exact RR.out, KP.out⟩
        case measure => simp [intOf]; omega
      | true =>
        have oS' : wr.ownsRow 0 9 1 (.slice (some ⟨gS, 0, none⟩) d.sure.length cS) d.sure.length (st (surL (settleL allK 0 d.sure (d.ws.take k)))) := by
          have q := RR.out.oS
          have q2 : (settleL allK 0 d.sure (d.ws.take k)).length = d.sure.length := settle_len _ _ _ _
          rw [show (⟨settleL allK 0 d.sure (d.ws.take k), d.ws, d.fuse⟩ : St).sure.length = d.sure.length from q2] at q
          exact q
        obtain ⟨u, hu⟩ : ∃ u, wr.cell? ⟨gS, x.1, none⟩ = some u := ⟨_, (oS'.cellAt x.1 (by have := hxo.1; omega)).trans (sur_at _ _ (by rw [settle_len]; exact hxo.1))⟩
        have hu2 := oS'.frozenAt x.1
        clear oS'
        have r0 := RR.out.c0
        have r2 := RR.out.c2
        have hxI : (x.1 : Int) < (d.sure.length : Int) := by omega
        have HF := hid (RR.out.sured (s' := settleL allK 0 d.sure (d.ws.take (k + 1))) (k := x.1) (t := x.2) (by rw [hn.out, if_pos rfl]) (ok_part H.out.ok _ _))
        have HZ : Hid ((wr.setCell ⟨gS, x.1, none⟩ (.string (tx x.2))).cell? ⟨R, 0, none⟩ = some (.slice (some ⟨gS, 0, none⟩) d.sure.length cS) ∧ (wr.setCell ⟨gS, x.1, none⟩ (.string (tx x.2))).cell? ⟨R, 2, none⟩ = some (.slice (some ⟨gW, 0, none⟩) d.ws.length cW) ∧ (wr.setCell ⟨gS, x.1, none⟩ (.string (tx x.2))).cell? ⟨gW, k, none⟩ = some (.string (tx x.2))) := by
          refine hid ⟨HF.out.c0, HF.out.c2, ?_⟩
          exact (World.cell?_of_block (w := wr) (a := ⟨gW, k, none⟩) (blk_put (fun q => RR.out.sw gS rfl (by rw [← q]; rfl)))).trans w0
        go_wp2_with (first | (go_at_call 43; refine HC.out.mono ?_; rintro e w2 ⟨rfl, rfl⟩))
        go_region_held3 (fun w' => w'.cell? ⟨R, 0, none⟩ = some (.slice (some ⟨gS, 0, none⟩) d.sure.length cS) ∧ w'.cell? ⟨R, 2, none⟩ = some (.slice (some ⟨gW, 0, none⟩) d.ws.length cW) ∧ w'.cell? ⟨gW, k, none⟩ = some (.string (tx x.2))) (first | exact ⟨r0, r2, w0⟩ | exact HZ.out) (fail)
        go_wp2
        go_roundw
        case rel => exact ⟨k + 1, by omega, by go_num, HF.out.drew, (KP.out.set _ _ _ (Or.inl (by simp))).drew⟩
        case measure => simp [intOf]; omega
    · obtain rfl : k = d.ws.length := by omega
      have r1 := RR.out.c1
      have r2 := RR.out.c2
      have f1 := RR.out.head.fz 1
      have f2 := RR.out.head.fz 2
      go_wp2
      go_end0
      have hb := RR.out
      rw [List.take_of_length_le (Nat.le_refl _)] at hb
      refine ⟨rfl, ⟨?_, own_other (own_other hb.oS _ _ _ hb.rS) _ _ _ hb.rS, ⟨by simp [St.settled, it, atsL], Or.inl ⟨rfl, rfl⟩⟩, ⟨by simp [St.settled, st, txsL], Or.inl ⟨rfl, rfl⟩⟩, hb.rS, by simp [Value.ownBlock], by simp [Value.ownBlock], by simp [Value.ownBlock], by simp [Value.ownBlock], by simp [Value.ownBlock], ok_settled H.out.ok _⟩, ?_⟩
      · exact (hb.head.set 1 (.slice none 0 0)).set 2 (.slice none 0 0)
      · exact ((KP.out.sub (Y := R :: (Value.slice (some ⟨gS, 0, none⟩) d.sure.length cS).ownBlock.toList) (by intro x hx; simp at hx; simp [hx, Value.ownBlock])).set _ _ _ (Or.inl (by simp))).set _ _ _ (Or.inl (by simp))
set_option maxRecDepth 100000 in
set_option maxHeartbeats 1600000 in
theorem lose_crash (R : Nat) (vS vA vW : Value) (d : St) (w : World) (h : Ref w R vS vA vW d) (X : Nat) (v : Value) (l : List Bool) (hX : w.cell? ⟨X, 0, none⟩ = some v) (hL : Lst w v (bl l)) (hl : l.length ≤ 1000000) (hXS : vS.ownBlock ≠ some X) (hvS : l = [] ∨ ∀ g, vS.ownBlock = some g → v.ownBlock ≠ some g) : Calls Tryd.prog 42 #[.pointer (some ⟨R, 0, none⟩), .func (.func 45) #[] #[.pointer (some ⟨X, 0, none⟩)]] w fun e w' => e = .returned (.tuple #[]) ∧ Ref w' R vS (.slice none 0 0) (.slice none 0 0) (d.settled (keptL l)) ∧ Keep (R :: vS.ownBlock.toList) w w' := by
  have H := hid h
  obtain ⟨gS, cS, hvS, -, hgS⟩ := h.oS.form (by have := h.ok.lo; omega)
  subst hvS
  obtain ⟨va, vc, hv, hvc⟩ := own_form h.oA
  subst hv
  have c1 := h.c1
  have h0 : d.ws.length ≤ 1000000 := h.ok.few
  have hKK : ∀ (i : Nat) (W : World), i ≤ 1000000 → Keep [gS] w W → Calls Tryd.prog 45 (#[.int .i64 i] ++ #[.pointer (some ⟨X, 0, none⟩)]) W fun e w' => e = .returned (.bool ((keptL l) i)) ∧ w' = W := by
    intro i W hi hk
    have hXl : X < w.heap.size := World.block_lt_of_cell? w _ hX
    refine rcrash1_any X v l i W ?_ (hL.keep2 hk (by rcases hvS with q | q; exact Or.inl (by rw [q]; rfl); exact Or.inr (fun k hk' => by simp only [List.mem_singleton] at hk'; rw [hk']; exact q gS rfl))) hi hl
    exact (World.cell?_of_block (w := w) (a := ⟨X, 0, none⟩) (hk.block X hXl (by simp only [List.mem_singleton]; rintro rfl; exact hXS rfl))).trans hX
  have HK := hid hKK
  clear hKK
  go_enter Tryd.func42, Tryd.ntmps42
  go_wp2
  go_loopw [11] (fun i wr => ∃ k : Nat, k ≤ d.ws.length ∧ i = .int .i64 k ∧ Ref wr R (.slice (some ⟨gS, 0, none⟩) d.sure.length cS) (.slice va d.ws.length vc) vW ⟨settleL (keptL l) 0 d.sure (d.ws.take k), d.ws, d.fuse⟩ ∧ Keep [gS] w wr) (fun i wr => d.ws.length - (intOf i).toNat)
  case atStart => exact ⟨0, Nat.zero_le _, rfl, H.out, Keep.refl _ _⟩
  case round =>
    obtain ⟨k, hk, rfl, hr, hkp⟩ := hrel
    have RR := hid hr
    have KP := hid hkp
    clear hr hkp
    by_cases hlt : k < d.ws.length
    · obtain ⟨gA, cA, e, -, -⟩ := RR.out.oA.form (by show 0 < d.ws.length; omega)
      injection e with e1 e2 e3
      subst e1
      obtain ⟨gW, cW, hvW, -, -⟩ := RR.out.oW.form (by show 0 < d.ws.length; omega)
      have hvW' : vW = .slice (some ⟨gW, 0, none⟩) d.ws.length cW := hvW
      subst hvW'
      clear hvW e2 e3
      obtain ⟨x, hx⟩ : ∃ x, d.ws[k] = x := ⟨_, rfl⟩
      have HX := hid hx
      have hxo := H.out.ok.wok x (by rw [← hx]; exact List.getElem_mem hlt)
      have a0 : wr.cell? ⟨gA, k, none⟩ = some (.int .i64 x.1) := by
        have := RR.out.oA.cellAt k (by show k < d.ws.length * 1; omega)
        rw [this]
        show (it (atsL d.ws))[k]? = _
        rw [ats_at d.ws k hlt, hx]
      have w0 : wr.cell? ⟨gW, k, none⟩ = some (.string (tx x.2)) := by
        have := RR.out.oW.cellAt k (by show k < d.ws.length * 1; omega)
        rw [this]
        show (st (txsL d.ws))[k]? = _
        rw [txs_at d.ws k hlt, hx]
      obtain ⟨q, hq⟩ : ∃ q, (keptL l) k = q := ⟨_, rfl⟩
      have HQ := hid hq
      have HC := hid (HK.out k wr (by omega) KP.out)
      rw [hq] at HC
      have hn := hid (settle_one (keptL l) d.sure d.ws k hlt)
      rw [HQ.out, HX.out] at hn
      have hkI : (k : Int) < (d.ws.length : Int) := by omega
      clear hq hx
      cases q with
      | false =>
        go_wp2_with (first | (go_at_call 45; refine HC.out.mono ?_; rintro e w2 ⟨rfl, rfl⟩))
        go_roundw
        case rel => exact ⟨k + 1, by omega, by go_num, by rw [hn.out]; exact RR.out, KP.out⟩
        case measure => simp [intOf]; omega
      | true =>
        have oS' : wr.ownsRow 0 9 1 (.slice (some ⟨gS, 0, none⟩) d.sure.length cS) d.sure.length (st (surL (settleL (keptL l) 0 d.sure (d.ws.take k)))) := by
          have q := RR.out.oS
          have q2 : (settleL (keptL l) 0 d.sure (d.ws.take k)).length = d.sure.length := settle_len _ _ _ _
          rw [show (⟨settleL (keptL l) 0 d.sure (d.ws.take k), d.ws, d.fuse⟩ : St).sure.length = d.sure.length from q2] at q
          exact q
        obtain ⟨u, hu⟩ : ∃ u, wr.cell? ⟨gS, x.1, none⟩ = some u := ⟨_, (oS'.cellAt x.1 (by have := hxo.1; omega)).trans (sur_at _ _ (by rw [settle_len]; exact hxo.1))⟩
        have hu2 := oS'.frozenAt x.1
        clear oS'
        have r0 := RR.out.c0
        have r2 := RR.out.c2
        have hxI : (x.1 : Int) < (d.sure.length : Int) := by omega
        have HF := hid (RR.out.sured (s' := settleL (keptL l) 0 d.sure (d.ws.take (k + 1))) (k := x.1) (t := x.2) (by rw [hn.out, if_pos rfl]) (ok_part H.out.ok _ _))
        have HZ : Hid ((wr.setCell ⟨gS, x.1, none⟩ (.string (tx x.2))).cell? ⟨R, 0, none⟩ = some (.slice (some ⟨gS, 0, none⟩) d.sure.length cS) ∧ (wr.setCell ⟨gS, x.1, none⟩ (.string (tx x.2))).cell? ⟨R, 2, none⟩ = some (.slice (some ⟨gW, 0, none⟩) d.ws.length cW) ∧ (wr.setCell ⟨gS, x.1, none⟩ (.string (tx x.2))).cell? ⟨gW, k, none⟩ = some (.string (tx x.2))) := by
          refine hid ⟨HF.out.c0, HF.out.c2, ?_⟩
          exact (World.cell?_of_block (w := wr) (a := ⟨gW, k, none⟩) (blk_put (fun q => RR.out.sw gS rfl (by rw [← q]; rfl)))).trans w0
        go_wp2_with (first | (go_at_call 45; refine HC.out.mono ?_; rintro e w2 ⟨rfl, rfl⟩))
        go_region_held3 (fun w' => w'.cell? ⟨R, 0, none⟩ = some (.slice (some ⟨gS, 0, none⟩) d.sure.length cS) ∧ w'.cell? ⟨R, 2, none⟩ = some (.slice (some ⟨gW, 0, none⟩) d.ws.length cW) ∧ w'.cell? ⟨gW, k, none⟩ = some (.string (tx x.2))) (first | exact ⟨r0, r2, w0⟩ | exact HZ.out) (fail)
        go_wp2
        go_roundw
        case rel => exact ⟨k + 1, by omega, by go_num, HF.out.drew, (KP.out.set _ _ _ (Or.inl (by simp))).drew⟩
        case measure => simp [intOf]; omega
    · obtain rfl : k = d.ws.length := by omega
      have r1 := RR.out.c1
      have r2 := RR.out.c2
      have f1 := RR.out.head.fz 1
      have f2 := RR.out.head.fz 2
      go_wp2
      go_end0
      have hb := RR.out
      rw [List.take_of_length_le (Nat.le_refl _)] at hb
      refine ⟨rfl, ⟨?_, own_other (own_other hb.oS _ _ _ hb.rS) _ _ _ hb.rS, ⟨by simp [St.settled, it, atsL], Or.inl ⟨rfl, rfl⟩⟩, ⟨by simp [St.settled, st, txsL], Or.inl ⟨rfl, rfl⟩⟩, hb.rS, by simp [Value.ownBlock], by simp [Value.ownBlock], by simp [Value.ownBlock], by simp [Value.ownBlock], by simp [Value.ownBlock], ok_settled H.out.ok _⟩, ?_⟩
      · exact (hb.head.set 1 (.slice none 0 0)).set 2 (.slice none 0 0)
      · exact ((KP.out.sub (Y := R :: (Value.slice (some ⟨gS, 0, none⟩) d.sure.length cS).ownBlock.toList) (by intro x hx; simp at hx; simp [hx, Value.ownBlock])).set _ _ _ (Or.inl (by simp))).set _ _ _ (Or.inl (by simp))
set_option maxHeartbeats 800000 in
theorem rsync_dead (R : Nat) (vS vA vW : Value) (d : St) (w : World) (h : Ref w R vS vA vW d) (hl : d.live = false) : Calls Tryd.prog 12 #[.pointer (some ⟨R, 0, none⟩)] w fun e w' => e = .returned (.int .i64 14) ∧ Ref w' R vS vA vW d.burnt ∧ Keep (R :: vS.ownBlock.toList) w w' := by
  have HB := hid (spent_any R vS vA vW d w h)
  clear h
  rw [hl] at HB
  go_enter Tryd.func12, Tryd.ntmps12
  go_wp2_with (first | (go_at_call 39; refine HB.out.mono ?_; rintro e w1 ⟨rfl, h1, k1⟩))
  go_ret
  exact ⟨rfl, h1, k1.sub (by intro x hx; simp at hx; simp [hx])⟩
set_option maxHeartbeats 800000 in
theorem rsync_live (R : Nat) (vS vA vW : Value) (d : St) (w : World) (h : Ref w R vS vA vW d) (hl : d.live = true) : Calls Tryd.prog 12 #[.pointer (some ⟨R, 0, none⟩)] w fun e w' => e = .returned (.int .i64 0) ∧ Ref w' R vS (.slice none 0 0) (.slice none 0 0) (d.burnt.settled allK) ∧ Keep (R :: vS.ownBlock.toList) w w' := by
  have HB := hid (spent_any R vS vA vW d w h)
  have HS := hid (fun (W : World) (h' : Ref W R vS vA vW d.burnt) => lose_sync R vS vA vW d.burnt W h')
  clear h
  rw [hl] at HB
  go_enter Tryd.func12, Tryd.ntmps12
  go_wp2_with (first | (go_at_call 39; refine HB.out.mono ?_; rintro e w1 ⟨rfl, h1, k1⟩) | (go_at_call 42; refine (HS.out _ h1).mono ?_; rintro e w2 ⟨rfl, h2, k2⟩))
  go_ret
  exact ⟨rfl, h2, (k1.sub (by intro x hx; simp at hx; simp [hx])).then k2 (fun y hy => Or.inl hy)⟩
set_option maxHeartbeats 800000 in
theorem rcrash_any (R : Nat) (vS vA vW v : Value) (d : St) (l : List Bool) (w : World) (h : Ref w R vS vA vW d) (hL : Lst w v (bl l)) (hl : l.length ≤ 1000000) (hvS : l = [] ∨ ∀ g, vS.ownBlock = some g → v.ownBlock ≠ some g) : Calls Tryd.prog 16 #[.pointer (some ⟨R, 0, none⟩), v] w fun e w' => e = .returned (.tuple #[]) ∧ Ref w' R vS (.slice none 0 0) (.slice none 0 0) ⟨(d.settled (keptL l)).sure, [], -1⟩ ∧ Keep (R :: vS.ownBlock.toList) w w' := by
  have HSL : ∀ g, vS.ownBlock = some g → g < w.heap.size := fun g hg => own_lt h.oS hg
  have H1 := hid (h.below ((Below.refl _ w).alloc (Nat.le_refl _) (.cells #[v] 33)))
  have L1 := hid (hL.below ((Below.refl _ w).alloc (Nat.le_refl _) (.cells #[v] 33)))
  have HX := hid (show (w.alloc (.cells #[v] 33)).cell? ⟨w.heap.size, 0, none⟩ = some v by simp)
  have HS := hid (lose_crash R vS vA vW d _ H1.out w.heap.size v l HX.out L1.out hl (fun q => by have := HSL _ q; omega) hvS)
  obtain ⟨va, vc, hv, -⟩ := hL
  subst hv
  clear h
  go_enter Tryd.func16, Tryd.ntmps16
  go_wp2_with (first | (go_at_call 42; refine HS.out.mono ?_; rintro e w2 ⟨rfl, h2, k2⟩; have c3 := h2.c3; have f3 := h2.head.fz 3))
  go_end0
  exact ⟨rfl, h2.fused (-1) (-1) (by omega) (by omega) rfl, ((((Keep.refl (R :: vS.ownBlock.toList) w).alloc _).then k2 (fun y hy => Or.inl hy)).set _ _ _ (Or.inl (by simp)))⟩
end Go.Proofs.YtgmngifnilmheaaDoor.Dk
