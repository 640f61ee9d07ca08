import Derived.Test.YtgmngifnilmheaaDoorDskO
import Derived.Laws.AppendOwnNone
set_option linter.unusedSimpArgs false
set_option linter.unusedVariables false
namespace Go.Proofs.YtgmngifnilmheaaDoor.Dk
open Go.RowKit

theorem info_int : (Tryd.prog.info? 3).map (fun i => (i.zero, i.size, i.bytes)) = some (some (.int .i64 0), 1, 8) := by kernel_rfl
theorem one1i (k : Int) : ∀ u ∈ [Value.int .i64 k], u.oneCell' = true := by intro u hu; simp at hu; subst hu; rfl
theorem rep_zero (c : Nat) : Lib.repeatL [0] c = List.replicate c 0 := by
  induction c with
  | zero => rfl
  | succ c ih => rw [Lib.repeatL, ih]; rfl
theorem cat_pad (s : ByteArray) (c : Nat) (h : s.size + c = 64) : s ++ (⟨(Lib.repeatL [0] c).toArray⟩ : ByteArray) = tx (pad s.data.toList) := by
  have e : (s ++ (⟨(Lib.repeatL [0] c).toArray⟩ : ByteArray)).data.toList = pad s.data.toList := by
    simp only [ByteArray.data_append, Array.toList_append]
    rw [rep_zero, pad]
    have : s.data.toList.length = s.size := by simp
    rw [this, show 64 - s.size = c by omega]
  rw [tx, ← e]
theorem zeros_tx : (⟨(Lib.repeatL [0] 64).toArray⟩ : ByteArray) = tx zeros := by
  rw [rep_zero]; rfl
/-- Between the two appends. -/
structure Mid (w : World) (R : Nat) (vS vA vW : Value) (d : St) (k : Nat) : Prop where
  head : Blk w R [vS, vA, vW, .int .i64 (nf d.fuse)]
  oS : w.ownsRow 0 9 1 vS d.sure.length (st (surL d.sure))
  oA : w.ownsRow 0 3 1 vA (d.ws.length + 1) (it (atsL d.ws) ++ [.int .i64 k])
  oW : w.ownsRow 0 9 1 vW d.ws.length (st (txsL d.ws))
  rS : vS.ownBlock ≠ some R
  rA : vA.ownBlock ≠ some R
  rW : vW.ownBlock ≠ some R
  sa : ∀ k, vS.ownBlock = some k → vA.ownBlock ≠ some k
  sw : ∀ k, vS.ownBlock = some k → vW.ownBlock ≠ some k
  aw : ∀ k, vA.ownBlock = some k → vW.ownBlock ≠ some k
theorem Mid.lt {w : World} {R : Nat} {vS vA vW : Value} {d : St} {j : Nat} (h : Mid w R vS vA vW d j) : ∀ k ∈ rblocks R vS vA vW, k < w.heap.size := by
  intro k hk
  rw [mem_rb] at hk
  rcases hk with rfl | hk | hk | hk
  · exact h.head.lt
  · exact own_lt h.oS hk
  · exact own_lt h.oA hk
  · exact own_lt h.oW hk
theorem Mid.mv {w w' : World} {R : Nat} {vS vA vW : Value} {d : St} {j : Nat} (h : Mid w R vS vA vW d j) (hb : ∀ k ∈ rblocks R vS vA vW, w'.heap[k]? = w.heap[k]?) : Mid w' R vS vA vW d j :=
  ⟨h.head.block (hb R (mem_rb.2 (Or.inl rfl))), own_mv h.oS (fun k hk => hb k (mem_rb.2 (Or.inr (Or.inl hk)))), own_mv h.oA (fun k hk => hb k (mem_rb.2 (Or.inr (Or.inr (Or.inl hk))))), own_mv h.oW (fun k hk => hb k (mem_rb.2 (Or.inr (Or.inr (Or.inr hk))))), h.rS, h.rA, h.rW, h.sa, h.sw, h.aw⟩
theorem Mid.below {w w' : World} {R : Nat} {vS vA vW : Value} {d : St} {j : Nat} (h : Mid w R vS vA vW d j) (hb : Below w.heap.size w w') : Mid w' R vS vA vW d j := h.mv (fun k hk => hb.block k (h.lt k hk))
theorem mid_of {w w' : World} {R : Nat} {vS vA vW : Value} {d : St} {k g cap : Nat} (h : Ref w R vS vA vW d) (hown : w'.ownsRow 0 3 1 (.slice (some ⟨g, 0, none⟩) (d.ws.length + 1) cap) (d.ws.length + 1) (it (atsL d.ws) ++ [.int .i64 k])) (hg : (w.alloc (.cells #[.int .i64 k] 3)).grownBy w' vA.ownBlock) (hat : vA.ownBlock = some g ∨ g = w.heap.size + 1) :
    Mid (w'.setCell ⟨R, 1, none⟩ (.slice (some ⟨g, 0, none⟩) (d.ws.length + 1) cap)) R vS (.slice (some ⟨g, 0, none⟩) (d.ws.length + 1) cap) vW d k ∧ Keep (rblocks R vS vA vW) w (w'.setCell ⟨R, 1, none⟩ (.slice (some ⟨g, 0, none⟩) (d.ws.length + 1) cap)) := by
  have h2 := h.below ((Below.refl _ w).alloc (Nat.le_refl _) (.cells #[.int .i64 k] 3))
  have hR := h.head.lt
  have hgR : g ≠ R := by rintro rfl; rcases hat with q | q; exact h.rA q; omega
  have hgS : ∀ q, vS.ownBlock = some q → q ≠ g := by
    rintro q hq rfl
    rcases hat with r | r
    · exact h.sa q hq r
    · have := own_lt h.oS hq; omega
  have hgW : ∀ q, vW.ownBlock = some q → q ≠ g := by
    rintro q hq rfl
    rcases hat with r | r
    · exact h.aw q r hq
    · have := own_lt h.oW hq; omega
  have kS := h2.oS.kept hg (by cases hv : vS.ownBlock with | none => exact Or.inl rfl | some q => exact Or.inr (fun e => h.sa q hv e.symm))
  have kW := h2.oW.kept hg (by cases hv : vW.ownBlock with | none => exact Or.inl rfl | some q => exact Or.inr (fun e => h.aw q e.symm hv))
  refine ⟨⟨(h2.head.grown hg (fun e => h.rA e.symm)).set 1 _, own_other kS _ _ _ h.rS, own_other hown _ _ _ (by simpa [Value.ownBlock] using hgR), own_other kW _ _ _ h.rW, h.rS, by simpa [Value.ownBlock] using hgR, h.rW, fun q hq e => hgS q hq (by simpa [Value.ownBlock] using e.symm), h.sw, fun q hq e => hgW q e (by simpa [Value.ownBlock] using hq.symm)⟩, ?_⟩
  exact (((Keep.refl _ w).alloc _).grown hg (fun r hr => Or.inl (mem_rb.2 (Or.inr (Or.inr (Or.inl hr)))))).set _ _ _ (Or.inl (mem_rb.2 (Or.inl rfl)))
theorem fin_of {w w' : World} {R : Nat} {vS vA vW : Value} {d : St} {k g cap : Nat} {t : Bs} {o : Obj} (h : Mid w R vS vA vW d k) (hown : w'.ownsRow 0 9 1 (.slice (some ⟨g, 0, none⟩) (d.ws.length + 1) cap) (d.ws.length + 1) (st (txsL d.ws) ++ [.string (tx t)])) (hg : (w.alloc o).grownBy w' vW.ownBlock) (hat : vW.ownBlock = some g ∨ g = w.heap.size + 1) (hok : (⟨d.sure, d.ws ++ [(k, t)], d.fuse⟩ : St).Ok) :
    w'.cell? ⟨R, 2, none⟩ = some vW ∧ w'.frozen? ⟨R, 2, none⟩ = false ∧ Ref (w'.setCell ⟨R, 2, none⟩ (.slice (some ⟨g, 0, none⟩) (d.ws.length + 1) cap)) R vS vA (.slice (some ⟨g, 0, none⟩) (d.ws.length + 1) cap) ⟨d.sure, d.ws ++ [(k, t)], d.fuse⟩ ∧ Keep (rblocks R vS vA vW) w (w'.setCell ⟨R, 2, none⟩ (.slice (some ⟨g, 0, none⟩) (d.ws.length + 1) cap)) := by
  have h2 := h.below ((Below.refl _ w).alloc (Nat.le_refl _) o)
  have hR := h.head.lt
  have hgR : g ≠ R := by rintro rfl; rcases hat with q | q; exact h.rW q; omega
  have hgS : ∀ q, vS.ownBlock = some q → q ≠ g := by
    rintro q hq rfl
    rcases hat with r | r
    · exact h.sw q hq r
    · have := own_lt h.oS hq; omega
  have hgA : ∀ q, vA.ownBlock = some q → q ≠ g := by
    rintro q hq rfl
    rcases hat with r | r
    · exact h.aw q hq r
    · have := own_lt h.oA hq; omega
  have kS := h2.oS.kept hg (by cases hv : vS.ownBlock with | none => exact Or.inl rfl | some q => exact Or.inr (fun e => h.sw q hv e.symm))
  have kA := h2.oA.kept hg (by cases hv : vA.ownBlock with | none => exact Or.inl rfl | some q => exact Or.inr (fun e => h.aw q hv e.symm))
  have hd := h2.head.grown hg (fun e => h.rW e.symm)
  refine ⟨hd.cell 2 rfl, hd.fz 2, ⟨hd.set 2 _, own_other kS _ _ _ h.rS, ?_, ?_, h.rS, h.rA, by simpa [Value.ownBlock] using hgR, h.sa, fun q hq e => hgS q hq (by simpa [Value.ownBlock] using e.symm), fun q hq e => hgA q hq (by simpa [Value.ownBlock] using e.symm), hok⟩, ?_⟩
  · have := own_other kA R 2 (.slice (some ⟨g, 0, none⟩) (d.ws.length + 1) cap) h.rA
    simpa [it, atsL] using this
  · have := own_other hown R 2 (.slice (some ⟨g, 0, none⟩) (d.ws.length + 1) cap) (by simpa [Value.ownBlock] using hgR)
    simpa [st, txsL] using this
  · exact (((Keep.refl _ w).alloc _).grown hg (fun r hr => Or.inl (mem_rb.2 (Or.inr (Or.inr (Or.inr hr)))))).set _ _ _ (Or.inl (mem_rb.2 (Or.inl rfl)))
theorem wrap_c (c : Nat) (h : c ≤ 64) : IntKind.i64.wrap (c : Int) = (c : Int) := by
  unfold IntKind.wrap
  simp [IntKind.signed, IntKind.bits]
  omega
theorem rep_any (s : ByteArray) (c : Nat) (W : World) (hc : s.size + c = 64) : Calls Tryd.prog 24 #[.string ⟨#[0]⟩, .int .i64 c] W fun e w' => ∃ x : ByteArray, e = .returned (.string x) ∧ ¬ 9223372036854775807 < s.size + x.size ∧ s ++ x = tx (pad s.data.toList) ∧ Below W.heap.size W w' := by
  refine (Tryd.strings_Repeat ⟨#[0]⟩ c W (by omega) (by simp [ByteArray.size]; omega)).mono ?_
  rintro e w' ⟨rfl, hb⟩
  refine ⟨_, rfl, ?_, cat_pad s c hc, hb⟩
  simp only [rep_zero, ByteArray.size, List.size_toArray, List.length_replicate]
  have : s.data.size = s.size := rfl
  omega
set_option maxHeartbeats 800000 in
theorem rwrite_range (R : Nat) (vS vA vW : Value) (d : St) (k : Int) (s : ByteArray) (w : World) (h : Ref w R vS vA vW d) (hk : k < 0 ∨ d.sure.length ≤ k) :
    Calls Tryd.prog 10 #[.pointer (some ⟨R, 0, none⟩), .int .i64 k, .string s] w fun e w' => e = .returned (.int .i64 2) ∧ w' = w := by
  obtain ⟨gS, cS, hvS, -, hgS⟩ := h.oS.form (by have := h.ok.lo; omega)
  subst hvS
  have c0 := h.c0
  rcases hk with hk | hk
  · go_enter Tryd.func10, Tryd.ntmps10
    go_wp2
    go_ret
    exact ⟨rfl, rfl⟩
  · have hk0 : decide (k < 0) = false := by simp; omega
    go_enter Tryd.func10, Tryd.ntmps10
    go_wp2
    go_ret
    exact ⟨rfl, rfl⟩
set_option maxHeartbeats 800000 in
theorem rwrite_limit (R : Nat) (vS vA vW : Value) (d : St) (k : Nat) (s : ByteArray) (w : World) (h : Ref w R vS vA vW d) (hk : k < d.sure.length) (hs : 64 < s.size) (hm : s.size ≤ 1000000) :
    Calls Tryd.prog 10 #[.pointer (some ⟨R, 0, none⟩), .int .i64 k, .string s] w fun e w' => e = .returned (.int .i64 4) ∧ w' = w := by
  obtain ⟨gS, cS, hvS, -, hgS⟩ := h.oS.form (by have := h.ok.lo; omega)
  subst hvS
  have c0 := h.c0
  have hkI : (k : Int) < (d.sure.length : Int) := by omega
  have hsI : (64 : Int) < (s.size : Int) := by omega
  go_enter Tryd.func10, Tryd.ntmps10
  go_wp2
  go_ret
  exact ⟨rfl, rfl⟩
set_option maxHeartbeats 800000 in
theorem rwrite_dead (R : Nat) (vS vA vW : Value) (d : St) (k : Nat) (s : ByteArray) (w : World) (h : Ref w R vS vA vW d) (hk : k < d.sure.length) (hs : s.size ≤ 64) (hl : d.live = false) :
    Calls Tryd.prog 10 #[.pointer (some ⟨R, 0, none⟩), .int .i64 k, .string s] w fun e w' => e = .returned (.int .i64 14) ∧ Ref w' R vS vA vW d.burnt ∧ Keep [R] w w' := by
  have HB := hid (spent_any R vS vA vW d w h)
  rw [hl] at HB
  obtain ⟨gS, cS, hvS, -, hgS⟩ := h.oS.form (by have := h.ok.lo; omega)
  subst hvS
  have c0 := h.c0
  have hkI : (k : Int) < (d.sure.length : Int) := by omega
  have hsI : (s.size : Int) ≤ 64 := by omega
  clear h
  go_enter Tryd.func10, Tryd.ntmps10
  go_wp2_with (first | (go_at_call 39; refine HB.out.mono ?_; rintro e w1 ⟨rfl, h1, k1⟩))
  go_ret
  exact ⟨rfl, h1, k1⟩
set_option maxRecDepth 100000 in
set_option maxHeartbeats 1600000 in
theorem rwrite_any (R : Nat) (vS vA vW : Value) (d : St) (k : Nat) (s : ByteArray) (w : World) (h : Ref w R vS vA vW d) (hk : k < d.sure.length) (hs : s.size ≤ 64) (hl : d.live = true) (hf : d.ws.length < 1000000) :
    Calls Tryd.prog 10 #[.pointer (some ⟨R, 0, none⟩), .int .i64 k, .string s] w fun e w' => ∃ vA' vW', e = .returned (.int .i64 0) ∧ Ref w' R vS vA' vW' (d.burnt.wrote k s.data.toList) ∧ Keep (rblocks R vS vA vW) w w' ∧ (∀ q ∈ rblocks R vS vA' vW', q ∈ rblocks R vS vA vW ∨ w.heap.size ≤ q) := by
  obtain ⟨i0, hi, hz0, hz1, hz2⟩ := info_parts info_int
  obtain ⟨i1, hi', hz0', hz1', hz2'⟩ := info_parts info_str
  have HB := hid (spent_any R vS vA vW d w h)
  rw [hl] at HB
  obtain ⟨gS, cS, hvS, -, hgS⟩ := h.oS.form (by have := h.ok.lo; omega)
  subst hvS
  have c0 := h.c0
  have hkI : (k : Int) < (d.sure.length : Int) := by omega
  have hsI : (s.size : Int) ≤ 64 := by omega
  obtain ⟨c, hc⟩ : ∃ c, s.size + c = 64 := ⟨64 - s.size, by omega⟩
  have hcI : (64 : Int) - (s.size : Int) = (c : Int) := by omega
  have HRP := hid (fun W => rep_any s c W hc)
  have hcw := wrap_c c (by omega)
  have hok := hid h.ok
  clear h
  go_enter Tryd.func10, Tryd.ntmps10
  go_wp2_with (first | (go_at_call 39; fail))
  refine HB.out.mono ?_
  rintro e w1 ⟨rfl, h1, k1⟩
  obtain ⟨va, vc, hv, hvc⟩ := own_form h1.oA
  subst hv
  obtain ⟨wa, wc, hv, hwc⟩ := own_form h1.oW
  subst hv
  have c1 := h1.c1
  have H1 := hid h1
  have K1 := hid k1
  have hR := h1.head.lt
  have O1 := hid (h1.oA.alloc (.cells #[.int .i64 k] 3))
  have HM1 : Hid (d.burnt.ws.length + 1 ≤ maxLen) := hid (by unfold maxLen; show d.ws.length + 1 ≤ _; omega)
  have HM2 : Hid ((d.burnt.ws.length + 1) * 8 ≤ 140737488355328) := hid (by show (d.ws.length + 1) * 8 ≤ _; omega)
  have HM3 : Hid ((d.burnt.ws.length + 1) * 16 ≤ 140737488355328) := hid (by show (d.ws.length + 1) * 16 ≤ _; omega)
  clear h1 k1
  go_wp2_with (first | (at_builtin; refine wpList_append_lies _ rfl _ _ 43 rfl 0 3 i0 _ 1 8 Tryd.underlying43 hi hz0 hz1 hz2 rfl (by decide) _ _ _ rfl O1.out ⟨w1.heap.size, 0, none⟩ 1 1 [.int .i64 k] rfl rfl (news1 _ _ _ _ rfl) (one1i _) (by omega) HM1.out HM2.out (Nat.zero_le _) (w1.heap.size + 1) (by simp) ?_; intro gA cA w3 hownA hgrowA hatA hltA; have B3 := hid ((H1.out.below ((Below.refl _ w1).alloc (Nat.le_refl _) (.cells #[.int .i64 k] 3))).head.grown hgrowA (fun q => H1.out.rA q.symm)); have r1 := B3.out.cell 1 rfl; have f1 := B3.out.fz 1))
  obtain ⟨M4, K4⟩ := mid_of H1.out hownA hgrowA hatA
  obtain ⟨w4, hw4⟩ : ∃ w4, w3.setCell ⟨R, 1, none⟩ (.slice (some ⟨gA, 0, none⟩) (d.burnt.ws.length + 1) cA) = w4 := ⟨_, rfl⟩
  rw [hw4] at M4 K4
  rw [hw4]
  have HM4 := hid M4
  have HK4 := hid ((K1.out.sub (Y := rblocks R (.slice (some ⟨gS, 0, none⟩) d.sure.length cS) (.slice va d.burnt.ws.length vc) (.slice wa d.burnt.ws.length wc)) (by intro x hx; simp at hx; exact Or.inl (mem_rb.2 (Or.inl hx)))).then K4 (fun y hy => Or.inl hy))
  have HAT : Hid (gA ∈ rblocks R (.slice (some ⟨gS, 0, none⟩) d.sure.length cS) (.slice va d.burnt.ws.length vc) (.slice wa d.burnt.ws.length wc) ∨ w.heap.size ≤ gA) := hid (by
    have := K1.out.size
    rcases hatA with q | q
    · exact Or.inl (mem_rb.2 (Or.inr (Or.inr (Or.inl q))))
    · exact Or.inr (by omega))
  have c4 := M4.head.cell 2 rfl
  have l4 := M4.head.lt
  have hs4 := HK4.out.size
  have HOK : Hid ((⟨d.burnt.sure, d.burnt.ws ++ [(k, pad s.data.toList)], d.burnt.fuse⟩ : St).Ok) := hid (ok_wrote (ok_burnt hok.out) k s.data.toList hk (by simpa using hs) hf)
  clear hw4 M4 K4 hownA hgrowA hatA hltA r1 f1 B3 c0 c1
  have FIN : Hid (∀ (w5 w7 : World) (gW cW : Nat), Below w4.drew.heap.size w4.drew w5 → Mid w5 R (.slice (some ⟨gS, 0, none⟩) d.sure.length cS) (.slice (some ⟨gA, 0, none⟩) (d.burnt.ws.length + 1) cA) (.slice wa d.burnt.ws.length wc) d.burnt k → Keep (rblocks R (.slice (some ⟨gS, 0, none⟩) d.sure.length cS) (.slice (some ⟨gA, 0, none⟩) (d.burnt.ws.length + 1) cA) (.slice wa d.burnt.ws.length wc)) w5 w7 → ((Value.slice wa d.burnt.ws.length wc).ownBlock = some gW ∨ gW = w5.heap.size + 1) → Ref w7 R (.slice (some ⟨gS, 0, none⟩) d.sure.length cS) (.slice (some ⟨gA, 0, none⟩) (d.burnt.ws.length + 1) cA) (.slice (some ⟨gW, 0, none⟩) (d.burnt.ws.length + 1) cW) ⟨d.burnt.sure, d.burnt.ws ++ [(k, pad s.data.toList)], d.burnt.fuse⟩ →
    ∃ vA' vW', Ending.returned (.int .i64 0) = .returned (.int .i64 0) ∧ Ref w7 R (.slice (some ⟨gS, 0, none⟩) d.sure.length cS) vA' vW' (d.burnt.wrote k s.data.toList) ∧ Keep (rblocks R (.slice (some ⟨gS, 0, none⟩) d.sure.length cS) (.slice va d.burnt.ws.length vc) (.slice wa d.burnt.ws.length wc)) w w7 ∧ (∀ q ∈ rblocks R (.slice (some ⟨gS, 0, none⟩) d.sure.length cS) vA' vW', q ∈ rblocks R (.slice (some ⟨gS, 0, none⟩) d.sure.length cS) (.slice va d.burnt.ws.length vc) (.slice wa d.burnt.ws.length wc) ∨ w.heap.size ≤ q)) := hid (by
    intro w5 w7 gW cW b5 m5 k6 at6 r6
    have hs5 := b5.size
    have hs45 : w4.heap.size ≤ w5.heap.size := hs5
    have k5 : Keep (rblocks R (.slice (some ⟨gS, 0, none⟩) d.sure.length cS) (.slice va d.burnt.ws.length vc) (.slice wa d.burnt.ws.length wc)) w w5 := HK4.out.drew.then (Keep.of (X := []) b5) (by simp)
    refine ⟨_, _, rfl, r6, k5.then k6 (fun y hy => ?_), fun q hq => ?_⟩
    · rw [mem_rb] at hy
      rcases hy with hy | hy | hy | hy
      · exact Or.inl (mem_rb.2 (Or.inl hy))
      · exact Or.inl (mem_rb.2 (Or.inr (Or.inl hy)))
      · simp [Value.ownBlock] at hy
        subst hy
        exact HAT.out
      · exact Or.inl (mem_rb.2 (Or.inr (Or.inr (Or.inr hy))))
    · rw [mem_rb] at hq
      rcases hq with hq | hq | hq | hq
      · exact Or.inl (mem_rb.2 (Or.inl hq))
      · exact Or.inl (mem_rb.2 (Or.inr (Or.inl hq)))
      · simp [Value.ownBlock] at hq
        subst hq
        exact HAT.out
      · simp only [Value.ownBlock, Option.some.injEq] at hq
        subst hq
        rcases at6 with a | a
        · exact Or.inl (mem_rb.2 (Or.inr (Or.inr (Or.inr a))))
        · exact Or.inr (by omega))
  refine wp_region_any (by kernel_rfl) ?_
  change wpAny _ _ _ _ _ _ _ (World.drew _)
  refine wpAny_take (i := 0) (v := .pointer (some ⟨R, 0, none⟩)) rfl (by kernel_rfl) (by kernel_rfl) (by kernel_rfl) (fun _ _ _ h => h) (Or.inl ⟨by rfl, ?_⟩) ?_
  · intro w
    go_simp
  simp only [List.getElem_toArray, List.getElem_cons_zero, List.getElem_cons_succ, Act.put, List.setIfInBounds_toArray, List.set_cons_zero, List.set_cons_succ]
  refine wpAny_take (i := 1) (v := .pointer (some ⟨R, 0, none⟩)) rfl (by kernel_rfl) (by kernel_rfl) (by kernel_rfl) (fun _ _ _ h => h) (Or.inl ⟨by rfl, ?_⟩) ?_
  · intro w
    go_simp
  simp only [List.getElem_toArray, List.getElem_cons_zero, List.getElem_cons_succ, Act.put, List.setIfInBounds_toArray, List.set_cons_zero, List.set_cons_succ]
  refine wpAny_take (i := 2) (v := .pointer (some ⟨R, 0, none⟩)) rfl (by kernel_rfl) (by kernel_rfl) (by kernel_rfl) (fun _ _ _ h => h) (Or.inl ⟨by rfl, ?_⟩) ?_
  · intro w
    go_simp
  simp only [List.getElem_toArray, List.getElem_cons_zero, List.getElem_cons_succ, Act.put, List.setIfInBounds_toArray, List.set_cons_zero, List.set_cons_succ]
  refine wpAny_take (i := 3) (v := .pointer (some ⟨R, 2, none⟩)) rfl (by kernel_rfl) (by kernel_rfl) (by kernel_rfl) (fun _ _ _ h => h) (Or.inl ⟨by rfl, ?_⟩) ?_
  · intro w
    go_simp
  simp only [List.getElem_toArray, List.getElem_cons_zero, List.getElem_cons_succ, Act.put, List.setIfInBounds_toArray, List.set_cons_zero, List.set_cons_succ]
  refine wpAny_take (i := 5) (v := .string s) rfl (by kernel_rfl) (by kernel_rfl) (by kernel_rfl) (fun _ _ _ h => h) (Or.inl ⟨by rfl, ?_⟩) ?_
  · intro w
    go_simp
  simp only [List.getElem_toArray, List.getElem_cons_zero, List.getElem_cons_succ, Act.put, List.setIfInBounds_toArray, List.set_cons_zero, List.set_cons_succ]
  refine wpAny_take (i := 6) (v := .string s) rfl (by kernel_rfl) (by kernel_rfl) (by kernel_rfl) (fun _ _ _ h => h) (Or.inl ⟨by rfl, ?_⟩) ?_
  · intro w
    go_simp
  simp only [List.getElem_toArray, List.getElem_cons_zero, List.getElem_cons_succ, Act.put, List.setIfInBounds_toArray, List.set_cons_zero, List.set_cons_succ]
  refine wpAny_take (i := 7) (v := .int .i64 (s.size : Int)) rfl (by kernel_rfl) (by kernel_rfl) (by kernel_rfl) (fun _ _ _ h => h) (Or.inl ⟨by rfl, ?_⟩) ?_
  · intro w
    go_simp
  simp only [List.getElem_toArray, List.getElem_cons_zero, List.getElem_cons_succ, Act.put, List.setIfInBounds_toArray, List.set_cons_zero, List.set_cons_succ]
  refine wpAny_take (i := 8) (v := .int .i64 (c : Int)) rfl (by kernel_rfl) (by kernel_rfl) (by kernel_rfl) (fun _ _ _ h => h) (Or.inl ⟨by rfl, ?_⟩) ?_
  · intro w
    go_simp
  simp only [List.getElem_toArray, List.getElem_cons_zero, List.getElem_cons_succ, Act.put, List.setIfInBounds_toArray, List.set_cons_zero, List.set_cons_succ]
  refine wpAny_ready (rs := [4, 9]) (by kernel_rfl) (by simp) ?_
  refine AllReady.cons rfl (fun K hK => ?_) (AllReady.cons rfl (fun K hK => ?_) AllReady.nil)
  · go_simp
    refine hK _ _ ?_
    clear hK K
    refine wpAny_ready (rs := [9]) (by kernel_rfl) (by simp) ?_
    refine AllReady.cons rfl (fun K hK => ?_) AllReady.nil
    go_simp
    refine (HRP.out _).mono ?_
    rintro e w5 ⟨x, rfl, n5, hx5, b5⟩
    refine hK _ _ ?_
    clear hK K
    try simp only [List.getElem_toArray, List.getElem_cons_zero, List.getElem_cons_succ, Act.put, List.setIfInBounds_toArray, List.set_cons_zero, List.set_cons_succ]
    have M5 := hid ((HM4.out.mv (w' := w4.drew) (fun _ _ => rfl)).below b5)
    have c5 := M5.out.head.cell 2 rfl
    have l5 := M5.out.head.lt
    have BB5 := hid b5
    have HX5 := hid hx5
    clear hx5 b5
    refine wpAny_take (i := 10) (v := .string (s ++ x)) rfl (by kernel_rfl) (by kernel_rfl) (by kernel_rfl) (fun _ _ _ h => h) (Or.inl ⟨by rfl, ?_⟩) ?_
    · intro w
      go_simp
    simp only [List.getElem_toArray, List.getElem_cons_zero, List.getElem_cons_succ, Act.put, List.setIfInBounds_toArray, List.set_cons_zero, List.set_cons_succ]
    refine wpAny_ready (rs := [11]) (by kernel_rfl) (by simp) ?_
    refine AllReady.cons rfl (fun K hK => ?_) AllReady.nil
    go_simp
    refine hK _ _ ?_
    clear hK K
    refine wpAny_ready (rs := [12]) (by kernel_rfl) (by simp) ?_
    refine AllReady.cons rfl (fun K hK => ?_) AllReady.nil
    refine step_append_lies _ (by rfl) _ _ _ (by rfl) 0 9 i1 _ 1 16 Tryd.underlying42 hi' hz0' hz1' hz2' rfl Nat.one_pos _ _ _ (by rfl) (M5.out.oW.alloc _) ⟨w5.heap.size, 0, none⟩ 1 1 [.string (s ++ x)] (by rfl) (by rfl) (news1 _ _ _ _ rfl) (one1t _) Nat.one_pos HM1.out HM3.out (Nat.zero_le _) (w5.heap.size + 1) (by simp) ?_
    intro gW cW w6 hownW hgrowW hatW hltW
    refine hK _ _ ?_
    clear hK K
    simp only [List.getElem_toArray, List.getElem_cons_zero, List.getElem_cons_succ, Act.put, List.setIfInBounds_toArray, List.set_cons_zero, List.set_cons_succ]
    rw [HX5.out] at hownW
    have F6 := fin_of (t := pad s.data.toList) M5.out hownW hgrowW hatW HOK.out
    have c6 := F6.1
    have f6 := F6.2.1
    have R6 := hid F6.2.2.1
    have K6 := hid F6.2.2.2
    have AT6 := hid hatW
    clear F6 hownW hgrowW hatW hltW
    refine wpAny_take (i := 13) (v := .pointer (some ⟨R, 0, none⟩)) rfl (by kernel_rfl) (by kernel_rfl) (by kernel_rfl) (fun _ _ _ h => h) (Or.inl ⟨by rfl, ?_⟩) ?_
    · intro w
      go_simp
    simp only [List.getElem_toArray, List.getElem_cons_zero, List.getElem_cons_succ, Act.put, List.setIfInBounds_toArray, List.set_cons_zero, List.set_cons_succ]
    refine wpAny_take (i := 14) (v := .pointer (some ⟨R, 2, none⟩)) rfl (by kernel_rfl) (by kernel_rfl) (by kernel_rfl) (fun _ _ _ h => h) (Or.inl ⟨by rfl, ?_⟩) ?_
    · intro w
      go_simp
    simp only [List.getElem_toArray, List.getElem_cons_zero, List.getElem_cons_succ, Act.put, List.setIfInBounds_toArray, List.set_cons_zero, List.set_cons_succ]
    refine wpAny_ready (rs := [15]) (by kernel_rfl) (by simp) ?_
    refine AllReady.cons rfl (fun K hK => ?_) AllReady.nil
    go_simp
    refine hK _ _ ?_
    clear hK K
    refine wpAny_done (by kernel_rfl) ?_ _
    go_wp2
    go_ret
    obtain ⟨p1, p2, -, p3⟩ := FIN.out _ _ _ _ BB5.out M5.out K6.out AT6.out R6.out
    exact ⟨rfl, p1, p2, p3⟩
  · go_simp
    refine (HRP.out _).mono ?_
    rintro e w5 ⟨x, rfl, n5, hx5, b5⟩
    refine hK _ _ ?_
    clear hK K
    try simp only [List.getElem_toArray, List.getElem_cons_zero, List.getElem_cons_succ, Act.put, List.setIfInBounds_toArray, List.set_cons_zero, List.set_cons_succ]
    have M5 := hid ((HM4.out.mv (w' := w4.drew) (fun _ _ => rfl)).below b5)
    have c5 := M5.out.head.cell 2 rfl
    have l5 := M5.out.head.lt
    have BB5 := hid b5
    have HX5 := hid hx5
    clear hx5 b5
    refine wpAny_take (i := 10) (v := .string (s ++ x)) rfl (by kernel_rfl) (by kernel_rfl) (by kernel_rfl) (fun _ _ _ h => h) (Or.inl ⟨by rfl, ?_⟩) ?_
    · intro w
      go_simp
    simp only [List.getElem_toArray, List.getElem_cons_zero, List.getElem_cons_succ, Act.put, List.setIfInBounds_toArray, List.set_cons_zero, List.set_cons_succ]
    refine wpAny_ready (rs := [4, 11]) (by kernel_rfl) (by simp) ?_
    refine AllReady.cons rfl (fun K hK => ?_) (AllReady.cons rfl (fun K hK => ?_) AllReady.nil)
    · go_simp
      refine hK _ _ ?_
      clear hK K
      refine wpAny_ready (rs := [11]) (by kernel_rfl) (by simp) ?_
      refine AllReady.cons rfl (fun K hK => ?_) AllReady.nil
      go_simp
      refine hK _ _ ?_
      clear hK K
      refine wpAny_ready (rs := [12]) (by kernel_rfl) (by simp) ?_
      refine AllReady.cons rfl (fun K hK => ?_) AllReady.nil
      refine step_append_lies _ (by rfl) _ _ _ (by rfl) 0 9 i1 _ 1 16 Tryd.underlying42 hi' hz0' hz1' hz2' rfl Nat.one_pos _ _ _ (by rfl) (M5.out.oW.alloc _) ⟨w5.heap.size, 0, none⟩ 1 1 [.string (s ++ x)] (by rfl) (by rfl) (news1 _ _ _ _ rfl) (one1t _) Nat.one_pos HM1.out HM3.out (Nat.zero_le _) (w5.heap.size + 1) (by simp) ?_
      intro gW cW w6 hownW hgrowW hatW hltW
      refine hK _ _ ?_
      clear hK K
      simp only [List.getElem_toArray, List.getElem_cons_zero, List.getElem_cons_succ, Act.put, List.setIfInBounds_toArray, List.set_cons_zero, List.set_cons_succ]
      rw [HX5.out] at hownW
      have F6 := fin_of (t := pad s.data.toList) M5.out hownW hgrowW hatW HOK.out
      have c6 := F6.1
      have f6 := F6.2.1
      have R6 := hid F6.2.2.1
      have K6 := hid F6.2.2.2
      have AT6 := hid hatW
      clear F6 hownW hgrowW hatW hltW
      refine wpAny_take (i := 13) (v := .pointer (some ⟨R, 0, none⟩)) rfl (by kernel_rfl) (by kernel_rfl) (by kernel_rfl) (fun _ _ _ h => h) (Or.inl ⟨by rfl, ?_⟩) ?_
      · intro w
        go_simp
      simp only [List.getElem_toArray, List.getElem_cons_zero, List.getElem_cons_succ, Act.put, List.setIfInBounds_toArray, List.set_cons_zero, List.set_cons_succ]
      refine wpAny_take (i := 14) (v := .pointer (some ⟨R, 2, none⟩)) rfl (by kernel_rfl) (by kernel_rfl) (by kernel_rfl) (fun _ _ _ h => h) (Or.inl ⟨by rfl, ?_⟩) ?_
      · intro w
        go_simp
      simp only [List.getElem_toArray, List.getElem_cons_zero, List.getElem_cons_succ, Act.put, List.setIfInBounds_toArray, List.set_cons_zero, List.set_cons_succ]
      refine wpAny_ready (rs := [15]) (by kernel_rfl) (by simp) ?_
      refine AllReady.cons rfl (fun K hK => ?_) AllReady.nil
      go_simp
      refine hK _ _ ?_
      clear hK K
      refine wpAny_done (by kernel_rfl) ?_ _
      go_wp2
      go_ret
      obtain ⟨p1, p2, -, p3⟩ := FIN.out _ _ _ _ BB5.out M5.out K6.out AT6.out R6.out
      exact ⟨rfl, p1, p2, p3⟩
    · go_simp
      refine hK _ _ ?_
      clear hK K
      refine wpAny_ready (rs := [4]) (by kernel_rfl) (by simp) ?_
      refine AllReady.cons rfl (fun K hK => ?_) AllReady.nil
      go_simp
      refine hK _ _ ?_
      clear hK K
      refine wpAny_ready (rs := [12]) (by kernel_rfl) (by simp) ?_
      refine AllReady.cons rfl (fun K hK => ?_) AllReady.nil
      refine step_append_lies _ (by rfl) _ _ _ (by rfl) 0 9 i1 _ 1 16 Tryd.underlying42 hi' hz0' hz1' hz2' rfl Nat.one_pos _ _ _ (by rfl) (M5.out.oW.alloc _) ⟨w5.heap.size, 0, none⟩ 1 1 [.string (s ++ x)] (by rfl) (by rfl) (news1 _ _ _ _ rfl) (one1t _) Nat.one_pos HM1.out HM3.out (Nat.zero_le _) (w5.heap.size + 1) (by simp) ?_
      intro gW cW w6 hownW hgrowW hatW hltW
      refine hK _ _ ?_
      clear hK K
      simp only [List.getElem_toArray, List.getElem_cons_zero, List.getElem_cons_succ, Act.put, List.setIfInBounds_toArray, List.set_cons_zero, List.set_cons_succ]
      rw [HX5.out] at hownW
      have F6 := fin_of (t := pad s.data.toList) M5.out hownW hgrowW hatW HOK.out
      have c6 := F6.1
      have f6 := F6.2.1
      have R6 := hid F6.2.2.1
      have K6 := hid F6.2.2.2
      have AT6 := hid hatW
      clear F6 hownW hgrowW hatW hltW
      refine wpAny_take (i := 13) (v := .pointer (some ⟨R, 0, none⟩)) rfl (by kernel_rfl) (by kernel_rfl) (by kernel_rfl) (fun _ _ _ h => h) (Or.inl ⟨by rfl, ?_⟩) ?_
      · intro w
        go_simp
      simp only [List.getElem_toArray, List.getElem_cons_zero, List.getElem_cons_succ, Act.put, List.setIfInBounds_toArray, List.set_cons_zero, List.set_cons_succ]
      refine wpAny_take (i := 14) (v := .pointer (some ⟨R, 2, none⟩)) rfl (by kernel_rfl) (by kernel_rfl) (by kernel_rfl) (fun _ _ _ h => h) (Or.inl ⟨by rfl, ?_⟩) ?_
      · intro w
        go_simp
      simp only [List.getElem_toArray, List.getElem_cons_zero, List.getElem_cons_succ, Act.put, List.setIfInBounds_toArray, List.set_cons_zero, List.set_cons_succ]
      refine wpAny_ready (rs := [15]) (by kernel_rfl) (by simp) ?_
      refine AllReady.cons rfl (fun K hK => ?_) AllReady.nil
      go_simp
      refine hK _ _ ?_
      clear hK K
      refine wpAny_done (by kernel_rfl) ?_ _
      go_wp2
      go_ret
      obtain ⟨p1, p2, -, p3⟩ := FIN.out _ _ _ _ BB5.out M5.out K6.out AT6.out R6.out
      exact ⟨rfl, p1, p2, p3⟩
end Go.Proofs.YtgmngifnilmheaaDoor.Dk
