import Derived.Test.YtemcpjflpggaeaaDoorDskJ
import Derived.Test.YtemcpjflpggaeaaDoorDskF
set_option linter.unusedSimpArgs false
set_option linter.unusedVariables false
namespace Go.Proofs.YtemcpjflpggaeaaDoor.Dk
open Go.RowKit

theorem Sit.drew {W w : World} {D S : Nat} {vw : Value} {d : St} {C : Nat} (h : Sit W w D S vw d C) : Sit W w.drew D S vw d C :=
  ⟨h.disk.drew, h.cell.block rfl, h.keep.drew, h.new, h.cn, h.cl⟩
theorem Sit.done {W w : World} {D S : Nat} {vw : Value} {d : St} {C : Nat} (h : Sit W w D S vw d C) : Below W.heap.size W w := h.keep.below (by simp) (Nat.le_refl _)
theorem Sit.lst {W w : World} {D S : Nat} {vw v : Value} {d : St} {C : Nat} {xs : List Value} (h : Sit W w D S vw d C) (hl : Lst W v xs) : Lst w v xs := hl.keep h.keep (by simp)
theorem sit_new {W w : World} {D S n : Nat} (h : Mine W w D S (.slice none 0 0) (newD n)) : Sit W (w.alloc (.cells #[.pointer (some ⟨D, 0, none⟩)] 28)) D S (.slice none 0 0) (newD n) w.heap.size :=
  ⟨h.disk.alloc _, Blk.new w [.pointer (some ⟨D, 0, none⟩)] _ _ rfl, h.keep.alloc _, h.new, fun q => by have := h.disk.blocks_lt _ q; omega, h.keep.size⟩
theorem Sit.fused {W w w' : World} {D S : Nat} {vw : Value} {d d' : St} {C : Nat} (h : Sit W w D S vw d C) (ha : At w' D S vw d') (hk : Keep [D] w w') : Sit W w' D S vw d' C :=
  h.step ha (hk.sub (fun x hx => Or.inl (by simp at hx; simp [hx, blocks]))) (Or.inl rfl)
theorem Was.fused {w w' : World} {v : Value} {l : List ByteArray} {D S : Nat} {vw : Value} (h : Was w v l D S vw) (hk : Keep [D] w w') : Was w' v l D S vw :=
  h.step (hk.sub (fun x hx => Or.inl (by simp at hx; simp [hx, blocks]))) (Or.inl rfl)
theorem settle_read : ∀ (ws : List (Nat × Bs)) (i : Nat) (s : List Bs) (k : Nat), k < s.length → ((settleL allK i s ws)[k]?).getD [] = (lastL k ws).getD (s[k]?.getD [])
  | [], i, s, k, h => rfl
  | x :: r, i, s, k, h => by
    rw [settleL, settle_read r (i + 1) _ k (by split <;> simpa using h), lastL]
    cases lastL k r with
    | some z => rfl
    | none =>
      simp only [allK, if_true, Option.none_or, Option.getD_none, List.getElem?_set]
      by_cases hx : x.1 = k
      · simp [hx, h]
      · simp [hx]
theorem reads_settled (d : St) (n : Nat) (h : n ≤ d.sure.length) : readsL (d.settled allK) n = readsL d n := by
  unfold readsL
  refine List.map_congr_left (fun k hk => ?_)
  have hk' := List.mem_range.1 hk
  congr 1
  rw [St.read, St.read]
  exact settle_read d.ws 0 d.sure k (by omega)
theorem reads_same {d e : St} (hs : d.sure = e.sure) (hw : d.ws = e.ws) (n : Nat) : readsL d n = readsL e n := by
  unfold readsL St.read
  rw [hs, hw]
theorem Was.form {w : World} {v : Value} {l : List ByteArray} {D S : Nat} {vw : Value} (h : Was w v l D S vw) : ∃ a c, v = .slice a l.length c := by
  obtain ⟨a, c, e, -⟩ := h.lst
  rw [st_len] at e
  exact ⟨a, c, e⟩
theorem arith1 {k m j n : Nat} (hjj : k % m = j) (g2 : ¬ m = 0) (g3 : ¬ 20 < m) (hlt : k < n) : ((k : Int).tmod (m : Int) = (j : Int)) ∧ (wrap64 ((k : Int).tmod (m : Int)) = (j : Int)) ∧ wrap64 (j : Int) = (j : Int) ∧ ((j : Int) < (m : Int)) ∧ ((k : Int) < (n : Int)) := by
  have hj : j < m := by rw [← hjj]; exact Nat.mod_lt _ (by omega)
  have e : (k : Int).tmod (m : Int) = (j : Int) := by rw [rem_small, hjj]
  exact ⟨e, by rw [e, wrap_small j (by omega)], wrap_small j (by omega), by omega, by omega⟩
end Go.Proofs.YtemcpjflpggaeaaDoor.Dk
