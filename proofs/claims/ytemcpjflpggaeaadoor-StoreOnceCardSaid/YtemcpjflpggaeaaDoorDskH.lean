import Derived.Test.YtemcpjflpggaeaaDoorDskG
set_option linter.unusedSimpArgs false
set_option linter.unusedVariables false
namespace Go.Proofs.YtemcpjflpggaeaaDoor.Dk
open Go.RowKit

def longS (s : ByteArray) : Bool := decide (64 < s.size)
theorem any_step {α : Type} {p : α → Bool} {l : List α} {k : Nat} (h : k < l.length) (ht : (l.take k).any p = false) (hp : p l[k] = false) : (l.take (k + 1)).any p = false := by
  rw [List.take_succ_eq_append_getElem h, List.any_append, ht]; simp [hp]
theorem any_hit {α : Type} {p : α → Bool} {l : List α} {k : Nat} (h : k < l.length) (hp : p l[k] = true) : l.any p = true := by
  rw [List.any_eq_true]; exact ⟨_, List.getElem_mem h, hp⟩
def foundI (r : Int) (b : Bool) : Prop := -1 ≤ r ∧ r ≤ 1000 ∧ (decide (0 ≤ r)) = b
set_option maxHeartbeats 400000 in
theorem pick_any (n : Int) (w : World) :
    Calls Tryd.prog 13 #[.int .i64 n, .int .i64 16] w fun e w' => ∃ k : Nat, e = .returned (.int .i64 (k : Int)) ∧ k < 16 ∧ (k : Int) = n % 16 ∧ w' = w := by
  go_enter Tryd.func13, Tryd.ntmps13
  go_wp2
  go_ret
  have hX : IntKind.u64.wrap n = n % 18446744073709551616 := by unfold IntKind.wrap; simp [IntKind.signed, IntKind.bits]
  have hm : (IntKind.u64.wrap n).tmod 16 = (IntKind.u64.wrap n) % 16 := Int.tmod_eq_emod_of_nonneg (by rw [hX]; omega)
  have hw : wrap64 ((IntKind.u64.wrap n).tmod 16) = (n % 16).toNat := by rw [hm, hX]; unfold wrap64; omega
  refine ⟨(n % 16).toNat, ?_, by omega, by omega, rfl⟩
  show Ending.returned (.int .i64 (wrap64 ((IntKind.u64.wrap n).tmod 16))) = _
  rw [hw]
theorem rem_small (k m : Nat) : (k : Int).tmod (m : Int) = ((k % m : Nat) : Int) := by
  rw [Int.tmod_eq_emod_of_nonneg (by omega)]; omega
theorem wrap_small (j : Nat) (h : j ≤ 1000) : wrap64 (j : Int) = (j : Int) := by unfold wrap64; omega
/-- Where DiskRests and its like stand: a disk of their own, its pointer in a cell of their own; all that was there is as it was. -/
structure Sit (W w : World) (D S : Nat) (vw : Value) (d : St) (C : Nat) : Prop where
  disk : At w D S vw d
  cell : Blk w C [.pointer (some ⟨D, 0, none⟩)]
  keep : Keep [] W w
  new : ∀ k ∈ blocks D S vw, W.heap.size ≤ k
  cn : C ∉ blocks D S vw
  cl : W.heap.size ≤ C
theorem Sit.below {W w w' : World} {D S : Nat} {vw : Value} {d : St} {C : Nat} (h : Sit W w D S vw d C) (hb : Below w.heap.size w w') : Sit W w' D S vw d C :=
  ⟨h.disk.below hb, h.cell.below hb, h.keep.then (Keep.of (X := []) hb) (by simp), h.new, h.cn, h.cl⟩
theorem Sit.step {W w w' : World} {D S : Nat} {vw vw' : Value} {d d' : St} {C : Nat} (h : Sit W w D S vw d C) (ha : At w' D S vw' d') (hk : Keep (blocks D S vw) w w') (hv : vw'.ownBlock = vw.ownBlock ∨ ∃ g, vw'.ownBlock = some g ∧ w.heap.size ≤ g) : Sit W w' D S vw' d' C := by
  have hw := h.keep.size
  have hc := h.cell.lt
  have hnew := h.new
  have hcn := h.cn
  refine ⟨ha, h.cell.keep hk h.cn, h.keep.then hk (fun y hy => Or.inr (h.new y hy)), ?_, ?_, h.cl⟩
  · intro k hk'
    simp only [blocks, List.mem_cons, Option.mem_toList] at hk' hnew
    rcases hk' with rfl | rfl | hk'
    · exact hnew _ (Or.inl rfl)
    · exact hnew _ (Or.inr (Or.inl rfl))
    · rcases hv with hv | ⟨g, hv, hg⟩
      · exact hnew k (Or.inr (Or.inr (hv ▸ hk')))
      · rw [hv] at hk'; injection hk' with hk'; omega
  · intro hk'
    simp only [blocks, List.mem_cons, Option.mem_toList, not_or] at hk' hcn
    rcases hk' with q | q | hk'
    · exact hcn.1 q
    · exact hcn.2.1 q
    · rcases hv with hv | ⟨g, hv, hg⟩
      · exact hcn.2.2 (hv ▸ hk')
      · rw [hv] at hk'; injection hk' with hk'; omega
theorem Sit.settle {W w w' : World} {D S : Nat} {vw : Value} {d d' : St} {C : Nat} (h : Sit W w D S vw d C) (ha : At w' D S (.slice none 0 0) d') (hk : Keep [D, S] w w') : Sit W w' D S (.slice none 0 0) d' C := by
  have hw := h.keep.size
  refine ⟨ha, h.cell.keep hk ?_, h.keep.then hk (fun y hy => Or.inr (h.new y (by simp at hy; rcases hy with rfl | rfl <;> simp [blocks]))), ?_, ?_, h.cl⟩
  · have := h.cn; simp [blocks] at this; simp [this]
  · intro k hk'; rw [blocks_none] at hk'; exact h.new k (by simp at hk'; rcases hk' with rfl | rfl <;> simp [blocks])
  · rw [blocks_none]; have := h.cn; simp [blocks] at this; simp [this]
/-- What was told of the disk lies elsewhere. -/
structure Was (w : World) (v : Value) (l : List ByteArray) (D S : Nat) (vw : Value) : Prop where
  lst : Lst w v (st l)
  off : ∀ k ∈ blocks D S vw, v.ownBlock ≠ some k
  lt : ∀ k, v.ownBlock = some k → k < w.heap.size
theorem Was.below {w w' : World} {v : Value} {l : List ByteArray} {D S : Nat} {vw : Value} (h : Was w v l D S vw) (hb : Below w.heap.size w w') : Was w' v l D S vw :=
  ⟨h.lst.below hb, h.off, fun k hk => Nat.lt_of_lt_of_le (h.lt k hk) hb.size⟩
theorem Was.step {w w' : World} {v : Value} {l : List ByteArray} {D S : Nat} {vw vw' : Value} (h : Was w v l D S vw) (hk : Keep (blocks D S vw) w w') (hv : vw'.ownBlock = vw.ownBlock ∨ ∃ g, vw'.ownBlock = some g ∧ w.heap.size ≤ g) : Was w' v l D S vw' := by
  refine ⟨h.lst.keep hk (fun k hk' => Or.inl (h.off k hk')), ?_, fun k hk' => Nat.lt_of_lt_of_le (h.lt k hk') hk.size⟩
  intro k hk' hv'
  have hoff := h.off
  have hlt := h.lt k hv'
  simp only [blocks, List.mem_cons, Option.mem_toList] at hk' hoff
  rcases hk' with rfl | rfl | hk'
  · exact hoff _ (Or.inl rfl) hv'
  · exact hoff _ (Or.inr (Or.inl rfl)) hv'
  · rcases hv with hv | ⟨g, hv, hg⟩
    · exact hoff k (Or.inr (Or.inr (hv ▸ hk'))) hv'
    · rw [hv] at hk'; injection hk' with hk'; omega
theorem Was.settle {w w' : World} {v : Value} {l : List ByteArray} {D S : Nat} {vw : Value} (h : Was w v l D S vw) (hk : Keep [D, S] w w') : Was w' v l D S (.slice none 0 0) := by
  refine ⟨h.lst.keep hk (fun k hk' => Or.inl (h.off k (by simp at hk'; rcases hk' with rfl | rfl <;> simp [blocks]))), ?_, fun k hk' => Nat.lt_of_lt_of_le (h.lt k hk') hk.size⟩
  intro k hk'
  rw [blocks_none] at hk'
  exact h.off k (by simp at hk'; rcases hk' with rfl | rfl <;> simp [blocks])
theorem read_64 {d : St} (h : d.Ok) (k : Nat) (hk : k < d.sure.length) : (d.read k).length = 64 := by
  have hl : ∀ (l : List (Nat × Bs)), (∀ x ∈ l, x.2.length = 64) → ∀ y, lastL k l = some y → y.length = 64 := by
    intro l
    induction l with
    | nil => intro _ y hy; simp [lastL] at hy
    | cons x r ih =>
      intro hx y hy
      rw [lastL] at hy
      cases hr : lastL k r with
      | some z =>
        rw [hr] at hy
        simp at hy
        rw [← hy]
        exact ih (fun q hq => hx q (by simp [hq])) z hr
      | none =>
        rw [hr] at hy
        simp at hy
        rw [← hy.2]
        exact hx x (by simp)
  rw [St.read]
  cases hr : lastL k d.ws with
  | some z => exact hl d.ws (fun x hx => (h.wok x hx).2) z hr
  | none =>
    rw [List.getElem?_eq_getElem hk]
    exact h.s64 _ (List.getElem_mem hk)
def readsL (d : St) (n : Nat) : List ByteArray := (List.range n).map fun k => tx (d.read k)
theorem readsL_succ (d : St) (n : Nat) : readsL d (n + 1) = readsL d n ++ [tx (d.read n)] := by simp [readsL, List.range_succ]
theorem readsL_len (d : St) (n : Nat) : (readsL d n).length = n := by simp [readsL]
theorem tx_size (l : Bs) : (tx l).size = l.length := by simp [tx, ByteArray.size]
end Go.Proofs.YtemcpjflpggaeaaDoor.Dk
