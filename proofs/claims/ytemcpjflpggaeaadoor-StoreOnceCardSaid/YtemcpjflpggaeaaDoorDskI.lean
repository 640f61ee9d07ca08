import Derived.Test.YtemcpjflpggaeaaDoorDskH
set_option linter.unusedSimpArgs false
set_option linter.unusedVariables false
namespace Go.Proofs.YtemcpjflpggaeaaDoor.Dk
open Go.RowKit

theorem info_str : (Tryd.prog.info? 9).map (fun i => (i.zero, i.size, i.bytes)) = some (some (.string ⟨#[]⟩), 1, 16) := by kernel_rfl
theorem news1 (w : World) (v : Value) (t : TypeId) (H : Nat) (hH : w.heap.size = H) : ∀ j u, [v][j]? = some u → (w.alloc (.cells #[v] t)).cell? ((⟨H, 0, none⟩ : Addr).add j) = some u := by
  intro j u hj
  match j, hj with
  | 0, hj => simp at hj; subst hj; subst hH; simp [Addr.add]
theorem one1t (s : ByteArray) : ∀ u ∈ [Value.string s], u.oneCell' = true := by intro u hu; simp at hu; subst hu; rfl
theorem lst_own {w : World} {B : Nat} {e : TypeId} {v : Value} {n : Nat} {xs : List Value} (h : w.ownsRow B e 1 v n xs) : Lst w v xs ∧ (∀ k, v.ownBlock = some k → B ≤ k ∧ k < w.heap.size) := by
  have hl := fun g => own_lt (g := g) h
  obtain ⟨hx, ⟨rfl, hn⟩ | ⟨g, cap, cur, rfl, hB, hh, hnc, hm, hs, ht⟩⟩ := h
  · subst hn
    have : xs = [] := List.eq_nil_of_length_eq_zero (by simpa using hx)
    subst this
    exact ⟨⟨none, 0, rfl, Or.inl rfl⟩, fun k hk => by simp [Value.ownBlock] at hk⟩
  · refine ⟨⟨some ⟨g, 0, none⟩, cap, by rw [hx, Nat.mul_one], Or.inr ⟨g, 0, rfl, hl g rfl, fun j u hj => ?_⟩⟩, fun k hk => ?_⟩
    · rw [← ht, List.getElem?_take] at hj
      split at hj
      · simp only [World.cell?, hh, Nat.zero_add]
        simpa using hj
      · cases hj
    · have := hl k hk
      simp [Value.ownBlock] at hk
      subst hk
      exact ⟨hB, this⟩
end Go.Proofs.YtemcpjflpggaeaaDoor.Dk
