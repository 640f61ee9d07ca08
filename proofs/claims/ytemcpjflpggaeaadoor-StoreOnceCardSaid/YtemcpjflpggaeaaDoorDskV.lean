import Derived.Test.YtemcpjflpggaeaaDoorDskU
import Derived.Test.YtemcpjflpggaeaaDoorMapR
set_option linter.unusedSimpArgs false
set_option linter.unusedVariables false
namespace Go.Proofs.YtemcpjflpggaeaaDoor.Dk
open Go.RowKit Go.Maps

def keyI (k : Nat) : Lit := .int .i64 (k : Int)
theorem keyI_inj {k j : Nat} (h : keyI k = keyI j) : k = j := by
  unfold keyI at h
  injection h with _ h
  omega
def rowAt (m : Lit → Option Value) (k : Nat) : Value := (m (keyI k)).getD (.slice none 0 0)
/-- A map of lists of texts, each of its own. -/
structure May (w : World) (M n B : Nat) (m : Lit → Option Value) (g : Nat → List ByteArray) : Prop where
  map : MapIs w 3 M n m
  dom : ∀ kl v, m kl = some v → ∃ k : Nat, k < 16 ∧ kl = keyI k
  rows : ∀ k, k < 16 → w.ownsRow B 9 1 (rowAt m k) (g k).length (st (g k))
  apart : ∀ k j b, k < 16 → j < 16 → k ≠ j → (rowAt m k).ownBlock = some b → (rowAt m j).ownBlock ≠ some b
  mb : M < B
theorem May.mv {w w' : World} {M n B : Nat} {m : Lit → Option Value} {g : Nat → List ByteArray} {X : List Nat} (h : May w M n B m g) (hk : Keep X w w') (hM : M ∉ X) (hr : ∀ k b, k < 16 → (rowAt m k).ownBlock = some b → b ∉ X) : May w' M n B m g :=
  ⟨h.map.block (hk.block M h.map.lt hM), h.dom, fun k hk' => own_keep (h.rows k hk') hk (fun b hb => hr k b hk' hb), h.apart, h.mb⟩
/-- Where DiskSure stands. -/
structure Sure (WB w : World) (D S M n : Nat) (vw : Value) (d : St) (m : Lit → Option Value) (g : Nat → List ByteArray) : Prop where
  disk : At w D S vw d
  may : May w M n WB.heap.size m g
  keep : Keep [D, S, M] WB w
  vn : ∀ b, vw.ownBlock = some b → WB.heap.size ≤ b
  off : ∀ k b, k < 16 → (rowAt m k).ownBlock = some b → vw.ownBlock ≠ some b
  dl : D < WB.heap.size
  sl : S < WB.heap.size
  md : M ≠ D
  ms : M ≠ S
theorem Sure.row_ge {WB w : World} {D S M n : Nat} {vw : Value} {d : St} {m : Lit → Option Value} {g : Nat → List ByteArray} (h : Sure WB w D S M n vw d m g) {k b : Nat} (hk : k < 16) (hb : (rowAt m k).ownBlock = some b) : WB.heap.size ≤ b ∧ b < w.heap.size := (h.may.rows k hk).lt b hb
theorem Sure.below {WB w w' : World} {D S M n : Nat} {vw : Value} {d : St} {m : Lit → Option Value} {g : Nat → List ByteArray} (h : Sure WB w D S M n vw d m g) (hb : Below w.heap.size w w') : Sure WB w' D S M n vw d m g :=
  ⟨h.disk.below hb, h.may.mv (Keep.of (X := []) hb) (by simp) (by simp), h.keep.then (Keep.of (X := []) hb) (by simp), h.vn, h.off, h.dl, h.sl, h.md, h.ms⟩
theorem Sure.wrote {WB w w' : World} {D S M n : Nat} {vw vw' : Value} {d d' : St} {m : Lit → Option Value} {g : Nat → List ByteArray} (h : Sure WB w D S M n vw d m g) (ha : At w' D S vw' d') (hk : Keep (blocks D S vw) w w') (hv : vw'.ownBlock = vw.ownBlock ∨ ∃ b, vw'.ownBlock = some b ∧ w.heap.size ≤ b) : Sure WB w' D S M n vw' d' m g := by
  have hmb := h.may.mb
  have hsz := h.keep.size
  have hnb : ∀ x, x ∈ blocks D S vw → x = D ∨ x = S ∨ vw.ownBlock = some x := by
    intro x hx
    simpa [blocks, Option.mem_toList] using hx
  refine ⟨ha, h.may.mv hk ?_ ?_, h.keep.then hk ?_, ?_, ?_, h.dl, h.sl, h.md, h.ms⟩
  · intro hx
    rcases hnb M hx with q | q | q
    · exact h.md q
    · exact h.ms q
    · have := h.vn M q; omega
  · intro k b hk' hb hx
    have h1 := h.row_ge hk' hb
    have := h.dl
    have := h.sl
    rcases hnb b hx with q | q | q
    · omega
    · omega
    · exact h.off k b hk' hb q
  · intro y hy
    rcases hnb y hy with q | q | q
    · exact Or.inl (by simp [q])
    · exact Or.inl (by simp [q])
    · exact Or.inr (h.vn y q)
  · intro b hb
    rcases hv with hv | ⟨b', hv, hge⟩
    · exact h.vn b (hv ▸ hb)
    · rw [hv] at hb; injection hb with hb; omega
  · intro k b hk' hb
    rcases hv with hv | ⟨b', hv, hge⟩
    · rw [hv]; exact h.off k b hk' hb
    · rw [hv]; intro e; injection e with e; have := (h.row_ge hk' hb).2; omega
theorem Sure.settle {WB w w' : World} {D S M n : Nat} {vw : Value} {d d' : St} {m : Lit → Option Value} {g : Nat → List ByteArray} (h : Sure WB w D S M n vw d m g) (ha : At w' D S (.slice none 0 0) d') (hk : Keep [D, S] w w') : Sure WB w' D S M n (.slice none 0 0) d' m g := by
  have hmb := h.may.mb
  have := h.dl
  have := h.sl
  refine ⟨ha, h.may.mv hk (by simp; exact ⟨h.md, h.ms⟩) ?_, h.keep.then hk ?_, by simp [Value.ownBlock], by simp [Value.ownBlock], h.dl, h.sl, h.md, h.ms⟩
  · intro k b hk' hb hx
    have h1 := h.row_ge hk' hb
    simp at hx
    omega
  · intro y hy
    simp at hy
    exact Or.inl (by rcases hy with rfl | rfl <;> simp)
theorem rowAt_same (m : Lit → Option Value) (k : Nat) (v : Value) : rowAt (putM m (keyI k) v) k = v := by simp [rowAt, putM_at]
theorem rowAt_other (m : Lit → Option Value) {k j : Nat} (v : Value) (h : j ≠ k) : rowAt (putM m (keyI k) v) j = rowAt m j := by
  unfold rowAt
  rw [putM_off m v (fun e => h (keyI_inj e))]
def setG (g : Nat → List ByteArray) (k : Nat) (l : List ByteArray) : Nat → List ByteArray := fun j => if j = k then l else g j
theorem setG_at (g : Nat → List ByteArray) (k : Nat) (l : List ByteArray) : setG g k l k = l := by simp [setG]
theorem setG_off (g : Nat → List ByteArray) {k j : Nat} (l : List ByteArray) (h : j ≠ k) : setG g k l j = g j := by simp [setG, h]
theorem setG_twice (g : Nat → List ByteArray) (k : Nat) (l l' : List ByteArray) : setG (setG g k l) k l' = setG g k l' := by
  funext j
  by_cases h : j = k
  · subst h; rw [setG_at, setG_at]
  · rw [setG_off _ _ h, setG_off _ _ h, setG_off _ _ h]
/-- The map at one key put anew: a list that is its own, in its old room or in new one. -/
theorem Sure.put {WB w w1 w2 w' : World} {D S M n k : Nat} {vw v : Value} {d : St} {m : Lit → Option Value} {g : Nat → List ByteArray} {xs : List ByteArray} (h : Sure WB w D S M n vw d m g) (hk : k < 16)
    (hb1 : Below w.heap.size w w1) (hg2 : w1.grownBy w2 (rowAt m k).ownBlock) (hv : w2.ownsRow WB.heap.size 9 1 v xs.length (st xs)) (hat : ∀ b, v.ownBlock = some b → (rowAt m k).ownBlock = some b ∨ w.heap.size ≤ b)
    (hm : MapIs w' 3 M (n + 1) (putM m (keyI k) v)) (hg : w2.grownBy w' (some M)) : Sure WB w' D S M (n + 1) vw d (putM m (keyI k) v) (setG g k xs) := by
  have hmb := h.may.mb
  have hsz := h.keep.size
  have h1 := h.below hb1
  have hml := h.may.map.lt
  have hrk : ∀ r, (rowAt m k).ownBlock = some r → r ≠ M := by
    intro r hr e
    have := (h.row_ge hk hr).1
    omega
  have hK1 : Keep ((rowAt m k).ownBlock.toList) w w1 := Keep.of hb1
  have hK2 : Keep ((rowAt m k).ownBlock.toList) w w2 := hK1.grown hg2 (fun r hr => Or.inl (by simp [hr]))
  have hK : Keep (M :: (rowAt m k).ownBlock.toList) w w' := by
    have : Keep (M :: (rowAt m k).ownBlock.toList) w w2 := hK2.sub (fun x hx => Or.inl (by simp at hx; simp [hx]))
    exact this.grown hg (fun r hr => Or.inl (by injection hr with hr; simp [hr]))
  have hmem : ∀ x, x ∈ (M :: (rowAt m k).ownBlock.toList) → x = M ∨ (rowAt m k).ownBlock = some x := by
    intro x hx
    simpa [Option.mem_toList] using hx
  have hrowM : ∀ j b, j < 16 → (rowAt m j).ownBlock = some b → b ≠ M := by
    intro j b hj hb e
    have := (h.row_ge hj hb).1
    omega
  refine ⟨h.disk.keep hK ?_, ⟨hm, ?_, ?_, ?_, hmb⟩, h.keep.then hK ?_, h.vn, ?_, h.dl, h.sl, h.md, h.ms⟩
  · intro x hx hx2
    have hnb : x = D ∨ x = S ∨ vw.ownBlock = some x := by simpa [blocks, Option.mem_toList] using hx
    rcases hmem x hx2 with q | q
    · subst q
      rcases hnb with q | q | q
      · exact h.md q
      · exact h.ms q
      · have := h.vn _ q; omega
    · have hge := (h.row_ge hk q).1
      have := h.dl
      have := h.sl
      rcases hnb with q2 | q2 | q2
      · omega
      · omega
      · exact h.off k x hk q q2
  · intro kl u hu
    by_cases e : kl = keyI k
    · exact ⟨k, hk, e⟩
    · rw [putM_off m v e] at hu
      exact h.may.dom kl u hu
  · intro j hj
    by_cases e : j = k
    · subst e
      rw [rowAt_same, setG_at]
      exact hv.kept hg (Or.inr (fun q => by
        rcases hat M q with q2 | q2
        · exact hrk M q2 rfl
        · omega))
    · rw [rowAt_other m v e, setG_off g xs e]
      refine own_keep (h.may.rows j hj) hK (fun b hb hx => ?_)
      rcases hmem b hx with q | q
      · exact hrowM j b hj hb q
      · exact h.may.apart k j b hk hj (fun q2 => e q2.symm) q hb
  · intro i j b hi hj hne hb
    by_cases ei : i = k
    · subst ei
      rw [rowAt_same] at hb
      rw [rowAt_other m v (fun q => hne q.symm)]
      intro hjb
      rcases hat b hb with q | q
      · exact h.may.apart i j b hi hj hne q hjb
      · have := (h.row_ge hj hjb).2; omega
    · rw [rowAt_other m v ei] at hb
      by_cases ej : j = k
      · subst ej
        rw [rowAt_same]
        intro hjb
        rcases hat b hjb with q | q
        · exact h.may.apart j i b hj hi (fun q2 => hne q2.symm) q hb
        · have := (h.row_ge hi hb).2; omega
      · rw [rowAt_other m v ej]
        exact h.may.apart i j b hi hj hne hb
  · intro y hy
    rcases hmem y hy with q | q
    · exact Or.inl (by simp [q])
    · exact Or.inr (h.row_ge hk q).1
  · intro j b hj hb
    by_cases e : j = k
    · subst e
      rw [rowAt_same] at hb
      intro hvb
      rcases hat b hb with q | q
      · exact h.off j b hj q hvb
      · have := h.disk.blocks_lt b (by simp [blocks, hvb]); omega
    · rw [rowAt_other m v e] at hb
      exact h.off j b hj hb
end Go.Proofs.YtemcpjflpggaeaaDoor.Dk
