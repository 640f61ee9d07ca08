import Derived.Test.YtgmngifnilmheaaDoorDskI
import Derived.Test.YtgmngifnilmheaaDoorShelf
set_option linter.unusedSimpArgs false
set_option linter.unusedVariables false
namespace Go.Proofs.YtgmngifnilmheaaDoor.Dk
open Go.RowKit

/-- The fuse, as the document's own disk has it. -/
def nf (f : Int) : Int := if f < 0 then -1 else f
def atsL (l : List (Nat × Bs)) : List Int := l.map fun x => (x.1 : Int)
def txsL (l : List (Nat × Bs)) : List ByteArray := l.map fun x => tx x.2
def surL (l : List Bs) : List ByteArray := l.map tx
def rblocks (R : Nat) (vS vA vW : Value) : List Nat := R :: (vS.ownBlock.toList ++ (vA.ownBlock.toList ++ vW.ownBlock.toList))
theorem mem_rb {R : Nat} {vS vA vW : Value} {k : Nat} : k ∈ rblocks R vS vA vW ↔ k = R ∨ vS.ownBlock = some k ∨ vA.ownBlock = some k ∨ vW.ownBlock = some k := by
  simp [rblocks, Option.mem_toList]
/-- The document's own disk in memory. -/
structure Ref (w : World) (R : Nat) (vS vA vW : Value) (d : St) : Prop where
  head : Blk w R [vS, vA, vW, .int .i64 (nf d.fuse)]
  oS : w.ownsRow 0 9 1 vS d.sure.length (st (surL d.sure))
  oA : w.ownsRow 0 3 1 vA d.ws.length (it (atsL d.ws))
  oW : w.ownsRow 0 9 1 vW d.ws.length (st (txsL d.ws))
  rS : vS.ownBlock ≠ some R
  rA : vA.ownBlock ≠ some R
  rW : vW.ownBlock ≠ some R
  sa : ∀ k, vS.ownBlock = some k → vA.ownBlock ≠ some k
  sw : ∀ k, vS.ownBlock = some k → vW.ownBlock ≠ some k
  aw : ∀ k, vA.ownBlock = some k → vW.ownBlock ≠ some k
  ok : d.Ok
theorem Ref.lt {w : World} {R : Nat} {vS vA vW : Value} {d : St} (h : Ref w R vS vA vW d) : ∀ k ∈ rblocks R vS vA vW, k < w.heap.size := by
  intro k hk
  rw [mem_rb] at hk
  rcases hk with rfl | hk | hk | hk
  · exact h.head.lt
  · exact own_lt h.oS hk
  · exact own_lt h.oA hk
  · exact own_lt h.oW hk
theorem own_mv {w w' : World} {base : Nat} {e : TypeId} {size : Nat} {v : Value} {n : Nat} {xs : List Value} (h : w.ownsRow base e size v n xs) (hb : ∀ k, v.ownBlock = some k → w'.heap[k]? = w.heap[k]?) : w'.ownsRow base e size v n xs := by
  obtain ⟨h1, h2⟩ := h
  refine ⟨h1, ?_⟩
  rcases h2 with h2 | ⟨g, cap, cur, rfl, hB, hh, hr⟩
  · exact Or.inl h2
  · exact Or.inr ⟨g, cap, cur, rfl, hB, (hb g rfl).trans hh, hr⟩
theorem Ref.mv {w w' : World} {R : Nat} {vS vA vW : Value} {d : St} (h : Ref w R vS vA vW d) (hb : ∀ k ∈ rblocks R vS vA vW, w'.heap[k]? = w.heap[k]?) : Ref w' R vS vA vW d :=
  ⟨h.head.block (hb R (mem_rb.2 (Or.inl rfl))), own_mv h.oS (fun k hk => hb k (mem_rb.2 (Or.inr (Or.inl hk)))), own_mv h.oA (fun k hk => hb k (mem_rb.2 (Or.inr (Or.inr (Or.inl hk))))), own_mv h.oW (fun k hk => hb k (mem_rb.2 (Or.inr (Or.inr (Or.inr hk))))), h.rS, h.rA, h.rW, h.sa, h.sw, h.aw, h.ok⟩
theorem Ref.below {w w' : World} {R : Nat} {vS vA vW : Value} {d : St} (h : Ref w R vS vA vW d) (hb : Below w.heap.size w w') : Ref w' R vS vA vW d := h.mv (fun k hk => hb.block k (h.lt k hk))
theorem Ref.keep {X : List Nat} {w w' : World} {R : Nat} {vS vA vW : Value} {d : St} (h : Ref w R vS vA vW d) (hb : Keep X w w') (hX : ∀ k ∈ rblocks R vS vA vW, k ∉ X) : Ref w' R vS vA vW d := h.mv (fun k hk => hb.block k (h.lt k hk) (hX k hk))
theorem Ref.drew {w : World} {R : Nat} {vS vA vW : Value} {d : St} (h : Ref w R vS vA vW d) : Ref w.drew R vS vA vW d := h.mv (fun _ _ => rfl)
theorem Ref.c0 {w : World} {R : Nat} {vS vA vW : Value} {d : St} (h : Ref w R vS vA vW d) : w.cell? ⟨R, 0, none⟩ = some vS := h.head.cell 0 rfl
theorem Ref.c1 {w : World} {R : Nat} {vS vA vW : Value} {d : St} (h : Ref w R vS vA vW d) : w.cell? ⟨R, 1, none⟩ = some vA := h.head.cell 1 rfl
theorem Ref.c2 {w : World} {R : Nat} {vS vA vW : Value} {d : St} (h : Ref w R vS vA vW d) : w.cell? ⟨R, 2, none⟩ = some vW := h.head.cell 2 rfl
theorem Ref.c3 {w : World} {R : Nat} {vS vA vW : Value} {d : St} (h : Ref w R vS vA vW d) : w.cell? ⟨R, 3, none⟩ = some (.int .i64 (nf d.fuse)) := h.head.cell 3 rfl
theorem Ref.fused {w : World} {R : Nat} {vS vA vW : Value} {d : St} (h : Ref w R vS vA vW d) (n m : Int) (h0 : -9223372036854775808 ≤ n) (h1 : n ≤ 9223372036854775807) (hm : nf n = m) : Ref (w.setCell ⟨R, 3, none⟩ (.int .i64 m)) R vS vA vW ⟨d.sure, d.ws, n⟩ := by
  subst hm
  exact ⟨h.head.set 3 _, own_other h.oS _ _ _ h.rS, own_other h.oA _ _ _ h.rA, own_other h.oW _ _ _ h.rW, h.rS, h.rA, h.rW, h.sa, h.sw, h.aw, ok_fuse h.ok n h0 h1⟩
theorem Ref.mv' {w w' : World} {R : Nat} {vS vA vW : Value} {d : St} (h : Ref w R vS vA vW d) (hh : Blk w' R [vS, vA, vW, .int .i64 (nf d.fuse)]) (hb : ∀ k ∈ rblocks R vS vA vW, k ≠ R → w'.heap[k]? = w.heap[k]?) : Ref w' R vS vA vW d :=
  ⟨hh, own_mv h.oS (fun k hk => hb k (mem_rb.2 (Or.inr (Or.inl hk))) (fun e => h.rS (e ▸ hk))), own_mv h.oA (fun k hk => hb k (mem_rb.2 (Or.inr (Or.inr (Or.inl hk)))) (fun e => h.rA (e ▸ hk))), own_mv h.oW (fun k hk => hb k (mem_rb.2 (Or.inr (Or.inr (Or.inr hk)))) (fun e => h.rW (e ▸ hk))), h.rS, h.rA, h.rW, h.sa, h.sw, h.aw, h.ok⟩
set_option maxHeartbeats 400000 in
theorem in_any (n : Int) (w : World) : Calls Tryd.prog 34 #[.int .i64 n, .int .i64 8, .int .i64 16384] w fun e w' => e = .returned (.bool (decide (8 ≤ n) && decide (n ≤ 16384))) ∧ w' = w := by
  by_cases h : 8 ≤ n
  · go_enter Tryd.func34, Tryd.ntmps34
    go_wp2
    go_ret
    exact ⟨ret_bool (by simp [h]), rfl⟩
  · go_enter Tryd.func34, Tryd.ntmps34
    go_wp2
    go_ret
    exact ⟨ret_bool (by simp; omega), rfl⟩
theorem nf_burnt (d : St) (h : 0 < d.fuse) : nf (d.fuse - 1) = nf d.fuse - 1 := by unfold nf; rw [if_neg (by omega), if_neg (by omega)]
set_option maxHeartbeats 400000 in
theorem spent_any (R : Nat) (vS vA vW : Value) (d : St) (w : World) (h : Ref w R vS vA vW d) : Calls Tryd.prog 39 #[.pointer (some ⟨R, 0, none⟩)] w fun e w' => e = .returned (.bool (!d.live)) ∧ Ref w' R vS vA vW d.burnt ∧ Keep [R] w w' := by
  have c3 := h.c3
  have f3 := h.head.fz 3
  have H := hid h
  have h0 := h.ok.f0
  have h1 := h.ok.f1
  by_cases hf : 0 < d.fuse
  · have HL := hid (show (!d.live) = false by unfold St.live; simp; omega)
    have HB : Hid (Ref (w.setCell ⟨R, 3, none⟩ (.int .i64 (d.fuse - 1))) R vS vA vW d.burnt) := hid (by
      have := h.fused (d.fuse - 1) (d.fuse - 1) (by omega) (by omega) (by unfold nf; rw [if_neg (by omega)])
      unfold St.burnt
      rw [if_pos hf]
      exact this)
    rw [show nf d.fuse = d.fuse by unfold nf; rw [if_neg (by omega)]] at c3
    go_enter Tryd.func39, Tryd.ntmps39
    go_wp2
    go_ret
    exact ⟨ret_bool HL.out.symm, HB.out, (Keep.refl _ _).set _ _ _ (Or.inl (by simp))⟩
  · have HF := hid (burnt_not hf)
    obtain ⟨z, hz⟩ : ∃ z, nf d.fuse = z := ⟨_, rfl⟩
    rw [hz] at c3
    have hz0 : ¬ 0 < z := by rw [← hz]; unfold nf; split <;> omega
    have HL := hid (show (!d.live) = (z == 0) by
      rw [← hz]
      unfold St.live nf
      by_cases q : d.fuse = 0
      · simp [q]
      · have q2 : d.fuse < 0 := by omega
        simp [q, q2])
    clear hz
    go_enter Tryd.func39, Tryd.ntmps39
    go_wp2
    go_ret
    exact ⟨ret_bool HL.out.symm, by rw [HF.out]; exact H.out, Keep.refl _ _⟩
set_option maxHeartbeats 400000 in
theorem rfuse_any (R : Nat) (vS vA vW : Value) (d : St) (n : Int) (w : World) (h : Ref w R vS vA vW d) (h0 : -9223372036854775808 ≤ n) (h1 : n ≤ 9223372036854775807) : Calls Tryd.prog 14 #[.pointer (some ⟨R, 0, none⟩), .int .i64 n] w fun e w' => e = .returned (.tuple #[]) ∧ Ref w' R vS vA vW ⟨d.sure, d.ws, n⟩ ∧ Keep [R] w w' := by
  have c3 := h.c3
  have f3 := h.head.fz 3
  have H := hid h
  by_cases hn : n < 0
  · have HR : Hid (Ref ((w.setCell ⟨R, 3, none⟩ (.int .i64 n)).setCell ⟨R, 3, none⟩ (.int .i64 (-1))) R vS vA vW ⟨d.sure, d.ws, n⟩) := hid (by
      have q := h.fused n (-1) h0 h1 (by unfold nf; rw [if_pos hn])
      refine q.mv' ?_ ?_
      · have := (h.head.set 3 (.int .i64 n)).set 3 (.int .i64 (-1))
        rw [show nf n = -1 by unfold nf; rw [if_pos hn]]
        exact this
      · intro k hk hne
        exact (Below.heap_setCell _ _ _ _ (by dsimp only; omega)).trans ((Below.heap_setCell _ _ _ _ (by dsimp only; omega)).trans (Below.heap_setCell _ _ _ _ (by dsimp only; omega)).symm))
    go_enter Tryd.func14, Tryd.ntmps14
    go_wp2
    go_end0
    exact ⟨rfl, HR.out, ((Keep.refl _ _).set _ _ _ (Or.inl (by simp))).set _ _ _ (Or.inl (by simp))⟩
  · have HR := hid (h.fused n n h0 h1 (by unfold nf; rw [if_neg hn]))
    go_enter Tryd.func14, Tryd.ntmps14
    go_wp2
    go_end0
    exact ⟨rfl, HR.out, (Keep.refl _ _).set _ _ _ (Or.inl (by simp))⟩
end Go.Proofs.YtgmngifnilmheaaDoor.Dk
