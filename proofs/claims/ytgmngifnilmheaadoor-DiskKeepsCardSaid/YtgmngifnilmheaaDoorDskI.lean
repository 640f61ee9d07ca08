import Derived.Test.YtgmngifnilmheaaDoorDskH
set_option linter.unusedSimpArgs false
set_option linter.unusedVariables false
namespace Go.Proofs.YtgmngifnilmheaaDoor.Dk
open Go.RowKit

theorem info_str : (Tryd.prog.info? 9).map (fun i => (i.zero, i.size, i.bytes)) = some (some (.string ⟨#[]⟩), 1, 16) := by kernel_rfl
theorem news1 (w : World) (v : Value) (t : TypeId) (H : Nat) (hH : w.heap.size = H) : ∀ j u, [v][j]? = some u → (w.alloc (.cells #[v] t)).cell? ((⟨H, 0, none⟩ : Addr).add j) = some u := by
  intro j u hj
  match j, hj with
  | 0, hj => simp at hj; subst hj; subst hH; simp [Addr.add]
theorem one1t (s : ByteArray) : ∀ u ∈ [Value.string s], u.oneCell' = true := by intro u hu; simp at hu; subst hu; rfl
theorem lst_own {w : World} {B : Nat} {e : TypeId} {v : Value} {n : Nat} {xs : List Value} (h : w.ownsRow B e 1 v n xs) : Lst w v xs ∧ (∀ k, v.ownBlock = some k → B ≤ k ∧ k < w.heap.size) := by
  have hl := fun g => own_lt (g := g) h
  obtain ⟨hx, ⟨rfl, hn⟩ | ⟨g, cap, cur, rfl, hB, hh, hnc, hm, hs, ht⟩⟩ := h
  · subst hn
    have : xs = [] := List.eq_nil_of_length_eq_zero (by simpa using hx)
    subst this
    exact ⟨⟨none, 0, rfl, Or.inl rfl⟩, fun k hk => by simp [Value.ownBlock] at hk⟩
  · refine ⟨⟨some ⟨g, 0, none⟩, cap, by rw [hx, Nat.mul_one], Or.inr ⟨g, 0, rfl, hl g rfl, fun j u hj => ?_⟩⟩, fun k hk => ?_⟩
    · rw [← ht, List.getElem?_take] at hj
      split at hj
      · simp only [World.cell?, hh, Nat.zero_add]
        simpa using hj
      · cases hj
    · have := hl k hk
      simp [Value.ownBlock] at hk
      subst hk
      exact ⟨hB, this⟩
set_option maxRecDepth 100000 in
set_option maxHeartbeats 1600000 in
theorem all_any (W w : World) (D S : Nat) (vw : Value) (d : St) (C : Nat) (h : Sit W w D S vw d C) (h16 : d.sure.length = 16) :
    Calls Tryd.prog 31 #[.pointer (some ⟨C, 0, none⟩)] w fun e w' => ∃ v, e = .returned v ∧ Was w' v (readsL d 16) D S vw ∧ Below w.heap.size w w' := by
  obtain ⟨i0, hi, hz0, hz1, hz2⟩ := info_parts info_str
  have H := hid h
  have HL := hid h16
  clear h h16
  go_enter Tryd.func31, Tryd.ntmps31
  go_wp2
  go_loopw [2, 3] (fun v i wr => ∃ k : Nat, k ≤ 16 ∧ i = .int .i64 k ∧ wr.ownsRow w.heap.size 9 1 v k (st (readsL d k)) ∧ Below w.heap.size w wr) (fun v i wr => 16 - (intOf i).toNat)
  case atStart => exact ⟨0, by omega, rfl, World.ownsRow_nil _ _ _ _, Below.refl _ _⟩
  case round =>
    obtain ⟨k, hk, rfl, ho, hbl⟩ := hrel
    have HO := hid ho
    have HB := hid hbl
    have s := H.out.below hbl
    obtain ⟨va, vc, hv, -⟩ := own_form ho
    subst hv
    clear ho hbl
    by_cases hlt : k < 16
    · have HR := hid (read_any D S vw d k wr s.disk (by rw [HL.out]; exact hlt))
      have c0 := s.cell.cell 0 rfl
      obtain ⟨t, ht⟩ : ∃ t, tx (d.read k) = t := ⟨_, rfl⟩
      have HT := hid ht
      have hts : t.size = 64 := by rw [← ht, tx_size]; exact read_64 s.disk.ok k (by rw [HL.out]; exact hlt)
      rw [ht] at HR
      clear ht
      have HM : Hid (k + 1 ≤ maxLen) := hid (by unfold maxLen; omega)
      go_wp2_with (first | (go_at_call 18; refine HR.out.mono ?_; rintro e w2 ⟨rfl, hb2⟩; have HB2 := hid hb2; have HO2 := hid ((own_keep HO.out (Keep.of (X := []) hb2) (by simp)).alloc (.cells #[.string t] 9)); have hsz2 := hb2.size; have hszB := HB.out.size; clear hb2) | (at_builtin; refine wpList_append_own _ rfl _ _ 42 rfl w.heap.size 9 i0 (.string ⟨#[]⟩) 1 16 Tryd.underlying42 hi hz0 hz1 hz2 rfl (by decide) _ _ _ rfl HO2.out ⟨w2.heap.size, 0, none⟩ 1 1 [.string t] rfl rfl (news1 _ _ _ _ rfl) (one1t _) HM.out (by omega) (by simp; omega) ?_; intro v5 w5 hown5 hgrow5 _; obtain ⟨va5, vc5, hv5, -⟩ := own_form hown5; subst hv5))
      go_roundw
      case rel =>
        refine ⟨k + 1, by omega, by go_num, ?_, ?_⟩
        · rw [readsL_succ, HT.out, st, List.map_append]
          exact hown5
        · have q1 : Below w.heap.size w (w2.alloc (.cells #[.string t] 9)) := (HB.out.trans (HB2.out.mono HB.out.size)).alloc (by omega) _
          refine q1.grown hgrow5 q1.size (fun g hg => ?_)
          exact (lst_own HO.out).2 g hg |>.1
      case measure => simp [intOf]; omega
    · obtain rfl : k = 16 := by omega
      go_wp2
      go_ret
      obtain ⟨l1, l2⟩ := lst_own HO.out
      refine ⟨_, rfl, ⟨l1, fun g hg hv => ?_, fun g hv => (l2 g hv).2⟩, HB.out⟩
      have := (l2 g hv).1
      have := H.out.disk.blocks_lt g hg
      omega
end Go.Proofs.YtgmngifnilmheaaDoor.Dk
