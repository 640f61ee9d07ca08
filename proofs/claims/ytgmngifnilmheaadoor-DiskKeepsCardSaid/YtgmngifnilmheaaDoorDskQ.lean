import Derived.Test.YtgmngifnilmheaaDoorDskP
import Derived.Deep.Onto
set_option linter.unusedSimpArgs false
set_option linter.unusedVariables false
namespace Go.Proofs.YtgmngifnilmheaaDoor.Dk
open Go.RowKit

theorem zrep_any (W : World) : Calls Tryd.prog 24 #[.string ⟨#[0]⟩, .int .i64 64] W fun e w' => e = .returned (.string (tx zeros)) ∧ Below W.heap.size W w' := by
  refine (Tryd.strings_Repeat ⟨#[0]⟩ 64 W (by omega) (by simp [ByteArray.size])).mono ?_
  rintro e w' ⟨rfl, hb⟩
  exact ⟨by rw [show (⟨#[0]⟩ : ByteArray).data.toList = [0] from rfl, zeros_tx], hb⟩
def zs (j : Nat) : List Value := List.replicate j (.string (tx zeros))
theorem zs_succ (j : Nat) : zs (j + 1) = zs j ++ [.string (tx zeros)] := by simp [zs, List.replicate_succ']
theorem zs_new (n : Nat) : zs n = st (surL (newD n).sure) := by simp [zs, st, surL, newD]
/-- The disk while its sectors are made. -/
structure Mk (w wr : World) (R : Nat) (vS : Value) (j : Nat) : Prop where
  head : Blk wr R [vS, .slice none 0 0, .slice none 0 0, .int .i64 (-1)]
  own : wr.ownsRow w.heap.size 9 1 vS j (zs j)
  rS : vS.ownBlock ≠ some R
  bel : Below w.heap.size w wr
  rl : w.heap.size ≤ R
theorem Mk.below {w wr w' : World} {R : Nat} {vS : Value} {j : Nat} (h : Mk w wr R vS j) (hb : Below wr.heap.size wr w') : Mk w w' R vS j :=
  ⟨h.head.below hb, own_mv h.own (fun k hk => hb.block k (own_lt h.own hk)), h.rS, h.bel.trans (hb.mono h.bel.size), h.rl⟩
theorem Mk.drew {w wr : World} {R : Nat} {vS : Value} {j : Nat} (h : Mk w wr R vS j) : Mk w wr.drew R vS j :=
  ⟨h.head.block rfl, own_mv h.own (fun _ _ => rfl), h.rS, ⟨h.bel.os, h.bel.tape, h.bel.output, h.bel.size, h.bel.block⟩, h.rl⟩
theorem Mk.step {w wr w' : World} {R : Nat} {vS : Value} {j g cap : Nat} {o : Obj} (h : Mk w wr R vS j) (hown : w'.ownsRow w.heap.size 9 1 (.slice (some ⟨g, 0, none⟩) (j + 1) cap) (j + 1) (zs j ++ [.string (tx zeros)])) (hg : (wr.alloc o).grownBy w' vS.ownBlock) (hat : vS.ownBlock = some g ∨ g = wr.heap.size + 1) :
    w'.cell? ⟨R, 0, none⟩ = some vS ∧ w'.frozen? ⟨R, 0, none⟩ = false ∧ Mk w (w'.setCell ⟨R, 0, none⟩ (.slice (some ⟨g, 0, none⟩) (j + 1) cap)) R (.slice (some ⟨g, 0, none⟩) (j + 1) cap) (j + 1) := by
  have h2 := h.below ((Below.refl _ wr).alloc (Nat.le_refl _) o)
  have hR := h.head.lt
  have hgR : g ≠ R := by rintro rfl; rcases hat with q | q; exact h.rS q; omega
  have hd := h2.head.grown hg (fun e => h.rS e.symm)
  have hlt := h.own.lt
  refine ⟨hd.cell 0 rfl, hd.fz 0, hd.set 0 _, ?_, by simpa [Value.ownBlock] using hgR, ?_, h.rl⟩
  · rw [zs_succ]
    exact own_other hown _ _ _ (by simpa [Value.ownBlock] using hgR)
  · exact (h2.bel.grown hg h2.bel.size (fun r hr => (hlt r hr).1)).setCell (p := ⟨R, 0, none⟩) h.rl _
set_option maxHeartbeats 800000 in
theorem rnew_bad (n : Int) (w : World) (h8 : n < 8 ∨ 16384 < n) : Calls Tryd.prog 6 #[.int .i64 n] w fun e w' => e = .returned (.tuple #[.pointer none, .int .i64 2]) ∧ w' = w := by
  have HI := hid (in_any n w)
  rw [show (decide (8 ≤ n) && decide (n ≤ 16384)) = false by rcases h8 with q | q <;> simp <;> omega] at HI
  clear h8
  go_enter Tryd.func6, Tryd.ntmps6
  go_wp2_with (first | (go_at_call 34; refine HI.out.mono ?_; rintro e w1 ⟨rfl, rfl⟩))
  refine bodyPost_ret (v := .tuple #[.pointer none, .int .i64 2]) (by simp [results, Tryd.results6, go_sem]) rfl ?_
  exact ⟨rfl, rfl⟩
set_option maxRecDepth 100000 in
set_option maxHeartbeats 1600000 in
theorem rnew_any (n : Nat) (w : World) (h8 : 8 ≤ n) (hn : n ≤ 16384) : Calls Tryd.prog 6 #[.int .i64 n] w fun e w' => ∃ R vS, e = .returned (.tuple #[.pointer (some ⟨R, 0, none⟩), .int .i64 0]) ∧ Ref w' R vS (.slice none 0 0) (.slice none 0 0) (newD n) ∧ Below w.heap.size w w' ∧ ∀ q ∈ rblocks R vS (.slice none 0 0) (.slice none 0 0), w.heap.size ≤ q := by
  obtain ⟨i1, hi', hz0', hz1', hz2'⟩ := info_parts info_str
  have HI := hid (in_any n w)
  rw [show (decide (8 ≤ (n : Int)) && decide ((n : Int) ≤ 16384)) = true by simp; omega] at HI
  have HRP := hid zrep_any
  have M0 : Hid (Mk w (w.alloc (.cells #[.slice none 0 0, .slice none 0 0, .slice none 0 0, .int .i64 (-1)] 45)) w.heap.size (.slice none 0 0) 0) := hid ⟨Blk.new w [.slice none 0 0, .slice none 0 0, .slice none 0 0, .int .i64 (-1)] _ _ rfl, World.ownsRow_nil _ _ _ _, by simp [Value.ownBlock], (Below.refl _ w).alloc (Nat.le_refl _) _, Nat.le_refl _⟩
  go_enter Tryd.func6, Tryd.ntmps6
  go_wp2_with (first | (go_at_call 34; refine HI.out.mono ?_; rintro e w1 ⟨rfl, rfl⟩))
  obtain ⟨R, hR⟩ : ∃ R, w1.heap.size = R := ⟨_, rfl⟩
  rw [hR] at M0
  rw [hR]
  clear hR
  go_loopw [11] (fun i wr => ∃ (j : Nat) (vS : Value), j ≤ n ∧ i = .int .i64 j ∧ Mk w1 wr R vS j) (fun i wr => n - (intOf i).toNat)
  case atStart => exact ⟨0, _, Nat.zero_le _, rfl, M0.out⟩
  case round =>
    obtain ⟨j, vS, hj, rfl, hm⟩ := hrel
    have MM := hid hm
    obtain ⟨va, vc, hv, -⟩ := own_form hm.own
    subst hv
    have c4 := hm.head.cell 0 rfl
    have l4 := hm.head.lt
    clear hm
    by_cases hlt : j < n
    · have hjI : (j : Int) < (n : Int) := by omega
      have HM1 : Hid (j + 1 ≤ maxLen) := hid (by unfold maxLen; omega)
      have HM3 : Hid ((j + 1) * 16 ≤ 140737488355328) := hid (by omega)
      go_wp2
      refine wp_region_any (by kernel_rfl) ?_
      change wpAny _ _ _ _ _ _ _ (World.drew _)
      refine wpAny_take (i := 0) (v := .pointer (some ⟨R, 0, none⟩)) rfl (by kernel_rfl) (by kernel_rfl) (by kernel_rfl) (fun _ _ _ h => h) (Or.inl ⟨by rfl, ?_⟩) ?_
      · intro w
        go_simp
      simp only [List.getElem_toArray, List.getElem_cons_zero, List.getElem_cons_succ, Act.put, List.setIfInBounds_toArray, List.set_cons_zero, List.set_cons_succ]
      refine wpAny_take (i := 1) (v := .pointer (some ⟨R, 0, none⟩)) rfl (by kernel_rfl) (by kernel_rfl) (by kernel_rfl) (fun _ _ _ h => h) (Or.inl ⟨by rfl, ?_⟩) ?_
      · intro w
        go_simp
      simp only [List.getElem_toArray, List.getElem_cons_zero, List.getElem_cons_succ, Act.put, List.setIfInBounds_toArray, List.set_cons_zero, List.set_cons_succ]
      refine wpAny_take (i := 2) (v := .pointer (some ⟨R, 0, none⟩)) rfl (by kernel_rfl) (by kernel_rfl) (by kernel_rfl) (fun _ _ _ h => h) (Or.inl ⟨by rfl, ?_⟩) ?_
      · intro w
        go_simp
      simp only [List.getElem_toArray, List.getElem_cons_zero, List.getElem_cons_succ, Act.put, List.setIfInBounds_toArray, List.set_cons_zero, List.set_cons_succ]
      refine wpAny_take (i := 3) (v := .pointer (some ⟨R, 0, none⟩)) rfl (by kernel_rfl) (by kernel_rfl) (by kernel_rfl) (fun _ _ _ h => h) (Or.inl ⟨by rfl, ?_⟩) ?_
      · intro w
        go_simp
      simp only [List.getElem_toArray, List.getElem_cons_zero, List.getElem_cons_succ, Act.put, List.setIfInBounds_toArray, List.set_cons_zero, List.set_cons_succ]
      refine wpAny_ready (rs := [4, 5]) (by kernel_rfl) (by simp) ?_
      refine AllReady.cons rfl (fun K hK => ?_) (AllReady.cons rfl (fun K hK => ?_) AllReady.nil)
      · go_simp
        refine hK _ _ ?_
        clear hK K
        refine wpAny_ready (rs := [5]) (by kernel_rfl) (by simp) ?_
        refine AllReady.cons rfl (fun K hK => ?_) AllReady.nil
        go_simp
        refine (HRP.out _).mono ?_
        rintro e w5 ⟨rfl, b5⟩
        refine hK _ _ ?_
        clear hK K
        try simp only [List.getElem_toArray, List.getElem_cons_zero, List.getElem_cons_succ, Act.put, List.setIfInBounds_toArray, List.set_cons_zero, List.set_cons_succ]
        have M5 := hid (MM.out.drew.below b5)
        have c5 := M5.out.head.cell 0 rfl
        have l5 := M5.out.head.lt
        clear b5
        refine wpAny_ready (rs := [6]) (by kernel_rfl) (by simp) ?_
        refine AllReady.cons rfl (fun K hK => ?_) AllReady.nil
        go_simp
        refine hK _ _ ?_
        clear hK K
        refine wpAny_ready (rs := [7]) (by kernel_rfl) (by simp) ?_
        refine AllReady.cons rfl (fun K hK => ?_) AllReady.nil
        refine step_append_lies _ (by rfl) _ _ _ (by rfl) w1.heap.size 9 i1 _ 1 16 Tryd.underlying42 hi' hz0' hz1' hz2' rfl Nat.one_pos _ _ _ (by rfl) (M5.out.own.alloc _) ⟨w5.heap.size, 0, none⟩ 1 1 [.string (tx zeros)] (by rfl) (by rfl) (news1 _ _ _ _ rfl) (one1t _) Nat.one_pos HM1.out HM3.out (by have := M5.out.bel.size; simp; omega) (w5.heap.size + 1) (by simp) ?_
        intro gW cW w6 hownW hgrowW hatW hltW
        refine hK _ _ ?_
        clear hK K
        simp only [List.getElem_toArray, List.getElem_cons_zero, List.getElem_cons_succ, Act.put, List.setIfInBounds_toArray, List.set_cons_zero, List.set_cons_succ]
        have F6 := M5.out.step hownW hgrowW hatW
        have c6 := F6.1
        have f6 := F6.2.1
        have R6 := hid F6.2.2
        clear F6 hownW hgrowW hatW hltW
        refine wpAny_take (i := 8) (v := .pointer (some ⟨R, 0, none⟩)) rfl (by kernel_rfl) (by kernel_rfl) (by kernel_rfl) (fun _ _ _ h => h) (Or.inl ⟨by rfl, ?_⟩) ?_
        · intro w
          go_simp
        simp only [List.getElem_toArray, List.getElem_cons_zero, List.getElem_cons_succ, Act.put, List.setIfInBounds_toArray, List.set_cons_zero, List.set_cons_succ]
        refine wpAny_take (i := 9) (v := .pointer (some ⟨R, 0, none⟩)) rfl (by kernel_rfl) (by kernel_rfl) (by kernel_rfl) (fun _ _ _ h => h) (Or.inl ⟨by rfl, ?_⟩) ?_
        · intro w
          go_simp
        simp only [List.getElem_toArray, List.getElem_cons_zero, List.getElem_cons_succ, Act.put, List.setIfInBounds_toArray, List.set_cons_zero, List.set_cons_succ]
        refine wpAny_ready (rs := [10]) (by kernel_rfl) (by simp) ?_
        refine AllReady.cons rfl (fun K hK => ?_) AllReady.nil
        go_simp
        refine hK _ _ ?_
        clear hK K
        refine wpAny_done (by kernel_rfl) ?_ _
        go_wp2
        go_roundw
        case rel => exact ⟨j + 1, _, by omega, by go_num, R6.out⟩
        case measure => simp [intOf]; omega
      · go_simp
        refine (HRP.out _).mono ?_
        rintro e w5 ⟨rfl, b5⟩
        refine hK _ _ ?_
        clear hK K
        try simp only [List.getElem_toArray, List.getElem_cons_zero, List.getElem_cons_succ, Act.put, List.setIfInBounds_toArray, List.set_cons_zero, List.set_cons_succ]
        have M5 := hid (MM.out.drew.below b5)
        have c5 := M5.out.head.cell 0 rfl
        have l5 := M5.out.head.lt
        clear b5
        refine wpAny_ready (rs := [4, 6]) (by kernel_rfl) (by simp) ?_
        refine AllReady.cons rfl (fun K hK => ?_) (AllReady.cons rfl (fun K hK => ?_) AllReady.nil)
        · go_simp
          refine hK _ _ ?_
          clear hK K
          refine wpAny_ready (rs := [6]) (by kernel_rfl) (by simp) ?_
          refine AllReady.cons rfl (fun K hK => ?_) AllReady.nil
          go_simp
          refine hK _ _ ?_
          clear hK K
          refine wpAny_ready (rs := [7]) (by kernel_rfl) (by simp) ?_
          refine AllReady.cons rfl (fun K hK => ?_) AllReady.nil
          refine step_append_lies _ (by rfl) _ _ _ (by rfl) w1.heap.size 9 i1 _ 1 16 Tryd.underlying42 hi' hz0' hz1' hz2' rfl Nat.one_pos _ _ _ (by rfl) (M5.out.own.alloc _) ⟨w5.heap.size, 0, none⟩ 1 1 [.string (tx zeros)] (by rfl) (by rfl) (news1 _ _ _ _ rfl) (one1t _) Nat.one_pos HM1.out HM3.out (by have := M5.out.bel.size; simp; omega) (w5.heap.size + 1) (by simp) ?_
          intro gW cW w6 hownW hgrowW hatW hltW
          refine hK _ _ ?_
          clear hK K
          simp only [List.getElem_toArray, List.getElem_cons_zero, List.getElem_cons_succ, Act.put, List.setIfInBounds_toArray, List.set_cons_zero, List.set_cons_succ]
          have F6 := M5.out.step hownW hgrowW hatW
          have c6 := F6.1
          have f6 := F6.2.1
          have R6 := hid F6.2.2
          clear F6 hownW hgrowW hatW hltW
          refine wpAny_take (i := 8) (v := .pointer (some ⟨R, 0, none⟩)) rfl (by kernel_rfl) (by kernel_rfl) (by kernel_rfl) (fun _ _ _ h => h) (Or.inl ⟨by rfl, ?_⟩) ?_
          · intro w
            go_simp
          simp only [List.getElem_toArray, List.getElem_cons_zero, List.getElem_cons_succ, Act.put, List.setIfInBounds_toArray, List.set_cons_zero, List.set_cons_succ]
          refine wpAny_take (i := 9) (v := .pointer (some ⟨R, 0, none⟩)) rfl (by kernel_rfl) (by kernel_rfl) (by kernel_rfl) (fun _ _ _ h => h) (Or.inl ⟨by rfl, ?_⟩) ?_
          · intro w
            go_simp
          simp only [List.getElem_toArray, List.getElem_cons_zero, List.getElem_cons_succ, Act.put, List.setIfInBounds_toArray, List.set_cons_zero, List.set_cons_succ]
          refine wpAny_ready (rs := [10]) (by kernel_rfl) (by simp) ?_
          refine AllReady.cons rfl (fun K hK => ?_) AllReady.nil
          go_simp
          refine hK _ _ ?_
          clear hK K
          refine wpAny_done (by kernel_rfl) ?_ _
          go_wp2
          go_roundw
          case rel => exact ⟨j + 1, _, by omega, by go_num, R6.out⟩
          case measure => simp [intOf]; omega
        · go_simp
          refine hK _ _ ?_
          clear hK K
          refine wpAny_ready (rs := [4]) (by kernel_rfl) (by simp) ?_
          refine AllReady.cons rfl (fun K hK => ?_) AllReady.nil
          go_simp
          refine hK _ _ ?_
          clear hK K
          refine wpAny_ready (rs := [7]) (by kernel_rfl) (by simp) ?_
          refine AllReady.cons rfl (fun K hK => ?_) AllReady.nil
          refine step_append_lies _ (by rfl) _ _ _ (by rfl) w1.heap.size 9 i1 _ 1 16 Tryd.underlying42 hi' hz0' hz1' hz2' rfl Nat.one_pos _ _ _ (by rfl) (M5.out.own.alloc _) ⟨w5.heap.size, 0, none⟩ 1 1 [.string (tx zeros)] (by rfl) (by rfl) (news1 _ _ _ _ rfl) (one1t _) Nat.one_pos HM1.out HM3.out (by have := M5.out.bel.size; simp; omega) (w5.heap.size + 1) (by simp) ?_
          intro gW cW w6 hownW hgrowW hatW hltW
          refine hK _ _ ?_
          clear hK K
          simp only [List.getElem_toArray, List.getElem_cons_zero, List.getElem_cons_succ, Act.put, List.setIfInBounds_toArray, List.set_cons_zero, List.set_cons_succ]
          have F6 := M5.out.step hownW hgrowW hatW
          have c6 := F6.1
          have f6 := F6.2.1
          have R6 := hid F6.2.2
          clear F6 hownW hgrowW hatW hltW
          refine wpAny_take (i := 8) (v := .pointer (some ⟨R, 0, none⟩)) rfl (by kernel_rfl) (by kernel_rfl) (by kernel_rfl) (fun _ _ _ h => h) (Or.inl ⟨by rfl, ?_⟩) ?_
          · intro w
            go_simp
          simp only [List.getElem_toArray, List.getElem_cons_zero, List.getElem_cons_succ, Act.put, List.setIfInBounds_toArray, List.set_cons_zero, List.set_cons_succ]
          refine wpAny_take (i := 9) (v := .pointer (some ⟨R, 0, none⟩)) rfl (by kernel_rfl) (by kernel_rfl) (by kernel_rfl) (fun _ _ _ h => h) (Or.inl ⟨by rfl, ?_⟩) ?_
          · intro w
            go_simp
          simp only [List.getElem_toArray, List.getElem_cons_zero, List.getElem_cons_succ, Act.put, List.setIfInBounds_toArray, List.set_cons_zero, List.set_cons_succ]
          refine wpAny_ready (rs := [10]) (by kernel_rfl) (by simp) ?_
          refine AllReady.cons rfl (fun K hK => ?_) AllReady.nil
          go_simp
          refine hK _ _ ?_
          clear hK K
          refine wpAny_done (by kernel_rfl) ?_ _
          go_wp2
          go_roundw
          case rel => exact ⟨j + 1, _, by omega, by go_num, R6.out⟩
          case measure => simp [intOf]; omega
    · obtain rfl : j = n := by omega
      go_wp2
      refine bodyPost_ret (v := .tuple #[.pointer (some ⟨R, 0, none⟩), .int .i64 0]) (by simp [results, Tryd.results6, go_sem]) rfl ?_
      have e1 : (newD j).sure.length = j := by simp [newD]
      refine ⟨R, _, rfl, ⟨MM.out.head, ?_, ⟨by simp [newD, it, atsL], Or.inl ⟨rfl, rfl⟩⟩, ⟨by simp [newD, st, txsL], Or.inl ⟨rfl, rfl⟩⟩, MM.out.rS, by simp [Value.ownBlock], by simp [Value.ownBlock], by simp [Value.ownBlock], by simp [Value.ownBlock], by simp [Value.ownBlock], ok_new j h8 hn⟩, MM.out.bel, fun q hq => ?_⟩
      · rw [e1, ← zs_new]
        exact MM.out.own.mono (Nat.zero_le _)
      · rw [mem_rb] at hq
        rcases hq with rfl | hq | hq | hq
        · exact MM.out.rl
        · exact (MM.out.own.lt q hq).1
        · simp [Value.ownBlock] at hq
        · simp [Value.ownBlock] at hq
end Go.Proofs.YtgmngifnilmheaaDoor.Dk
