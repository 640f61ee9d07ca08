import Derived.Test.YtemcpjflpggaeaaDoorStoD
import Derived.Test.YtemcpjflpggaeaaDoorSumJ
import Derived.Deep.AppendSrc
import Derived.Lib.ConvBytes
import Derived.Laws.BytesString
set_option linter.unusedSimpArgs false
set_option linter.unusedVariables false
namespace Go.Proofs.YtemcpjflpggaeaaDoor.Dk
open Go.RowKit Go.Maps

/-- Bytes of one's own, as they lie in a row. -/
def Bx (w : World) (B : Nat) (v : Value) (l : Bs) : Prop := ∃ g cap, v = .slice (some ⟨g, 0, none⟩) l.length cap ∧ B ≤ g ∧ g < w.heap.size ∧ l.length ≤ cap ∧ cap ≤ maxLen ∧ w.rangeAt g 0 (bc l) ∧ ∀ j, j < cap → (w.cell? ⟨g, j, none⟩).isSome = true ∧ w.frozen? ⟨g, j, none⟩ = false
theorem Bx.block {w w' : World} {B : Nat} {v : Value} {l : Bs} (h : Bx w B v l) (hs : w.heap.size ≤ w'.heap.size) (hb : ∀ g, v.ownBlock = some g → w'.heap[g]? = w.heap[g]?) : Bx w' B v l := by
  obtain ⟨g, cap, rfl, h1, h2, h3, h4, h5, h6⟩ := h
  have hg := hb g rfl
  refine ⟨g, cap, rfl, h1, Nat.lt_of_lt_of_le h2 hs, h3, h4, fun j u hu => ?_, fun j hj => ?_⟩
  · rw [World.cell?_of_block hg]; exact h5 j u hu
  · rw [World.cell?_of_block hg, World.frozen?_of_block hg]; exact h6 j hj
theorem Bx.below {w w' : World} {B : Nat} {v : Value} {l : Bs} (h : Bx w B v l) (hb : Below w.heap.size w w') : Bx w' B v l :=
  h.block hb.size (fun g hg => by
    obtain ⟨g', cap, rfl, h1, h2, -⟩ := h
    simp [Value.ownBlock] at hg
    subst hg
    exact hb.block _ h2)
theorem Bx.up {w : World} {B B' : Nat} {v : Value} {l : Bs} (h : Bx w B v l) (hb : B' ≤ B) : Bx w B' v l := by
  obtain ⟨g, cap, rfl, h1, h2⟩ := h
  exact ⟨g, cap, rfl, Nat.le_trans hb h1, h2⟩
theorem bc_at (l : Bs) (j : Nat) (h : j < l.length) : (bc l)[j]? = some (.int .u8 ((l.getD j 0).toNat : Int)) := by simp [bc, h]
theorem conv_run (w : World) (s : ByteArray) : (convert 9 66 (.string s)).run Tryd.prog w = .ok (.slice (some ⟨w.heap.size, 0, none⟩) s.size (grownCap w s.size 0 5)) (Lib.bytesWorld w 5 s) :=
  Lib.run_convert_string_bytes (P := Tryd.prog) w 9 66 5 s Tryd.underlying9 Tryd.underlying66 Tryd.underlying5
theorem Bx.conv (w : World) (s : ByteArray) (hs : s.size ≤ maxLen) : Bx (Lib.bytesWorld w 5 s) w.heap.size (.slice (some ⟨w.heap.size, 0, none⟩) s.size (grownCap w s.size 0 5)) s.data.toList ∧ Below w.heap.size w (Lib.bytesWorld w 5 s) := by
  have hge := grownCap_ge w s.size 0 5
  have hcm : grownCap w s.size 0 5 ≤ maxLen := grownCap_le_maxLen w s.size 0 5 hs
  have hlen : s.data.toList.length = s.size := by simp
  have hnew := Lib.bytesWorld_at_new w 5 s
  have hcs : (Lib.bytesCells w 5 s).size = grownCap w s.size 0 5 := by
    simp [Lib.bytesCells]
    omega
  refine ⟨⟨w.heap.size, _, by rw [hlen], Nat.le_refl _, by rw [Lib.bytesWorld_size]; omega, by rw [hlen]; exact hge, hcm, ?_, ?_⟩, ⟨rfl, rfl, rfl, by rw [Lib.bytesWorld_size]; omega, fun k hk => Lib.bytesWorld_at_old w 5 s k hk⟩⟩
  · intro j u hu
    have hj : j < s.data.toList.length := by
      have := (List.getElem?_eq_some_iff.1 hu).1
      rwa [bc_len] at this
    rw [bc_at _ _ hj] at hu
    rw [Nat.zero_add, Lib.bytesWorld_cell w 5 s j (by rw [← hlen]; exact hj), ← hu]
  · intro j hj
    constructor
    · simp only [World.cell?, hnew]
      simp
      omega
    · simp only [World.frozen?, hnew]
      simp
      omega
theorem info_u8 : (Tryd.prog.info? 5).map (fun i => (i.zero, i.size, i.bytes)) = some (some (.int .u8 0), 1, 1) := by kernel_rfl
theorem Bx.app {w : World} {B : Nat} {v : Value} {l : Bs} (h : Bx w B v l) (s : ByteArray) (hs : l.length + s.size ≤ 1000000) (hB : B ≤ w.heap.size) (ty : TypeId) :
    ∃ v' w', (Builtin.append_ #[66, 9] ty #[v, .string s]).run Tryd.prog w = .ok v' w' ∧ Bx w' B v' (l ++ s.data.toList) ∧ w.grownBy w' v.ownBlock ∧ (v'.ownBlock = v.ownBlock ∨ v'.ownBlock = some w.heap.size) := by
  obtain ⟨i0, hi0, hz0, hz1, hz2⟩ := info_parts info_u8
  have hlen : s.data.toList.length = s.size := by simp
  have hsrc : Src Tryd.prog i0.size 9 (.string s) s.size (byteCells s) w := by rw [hz1]; exact Src.ofString w Tryd.underlying9 s
  have hbc : byteCells s = bc s.data.toList := rfl
  obtain ⟨g, cap, rfl, h1, h2, h3, h4, h5, h6⟩ := h
  by_cases hroom : l.length + s.size ≤ cap
  · have hr := run_append_room_src (P := Tryd.prog) w 66 9 ty 5 i0 Tryd.underlying66 hi0 g 0 l.length cap (.string s) s.size (byteCells s) hsrc hroom
      (fun j hj => by rw [byteCells_length] at hj; rw [hz1]; exact (h6 _ (by omega)).1) (fun j hj => by rw [byteCells_length] at hj; rw [hz1]; exact (h6 _ (by omega)).2)
    rw [hz1, Nat.mul_one, Nat.zero_add] at hr
    refine ⟨_, _, hr, ⟨g, cap, by rw [List.length_append, hlen], h1, ?_, by rw [List.length_append, hlen]; exact hroom, h4, ?_, ?_⟩, ?_, Or.inl rfl⟩
    · have := (Keep.sets (X := [g]) (R := g) (byteCells s) l.length (Keep.refl [g] w) (Or.inl (by simp))).size
      omega
    · rw [bc_app]
      intro j u hu
      rcases Nat.lt_or_ge j (bc l).length with q | q
      · rw [List.getElem?_append_left q] at hu
        rw [bc_len] at q
        rw [World.cell?_setCells_out g (byteCells s) l.length w ⟨g, 0 + j, none⟩ (fun _ _ => Or.inl (by show 0 + j < _; omega))]
        exact h5 j u hu
      · rw [List.getElem?_append_right q, bc_len] at hu
        rw [bc_len] at q
        have hj := (List.getElem?_eq_some_iff.1 hu).1
        have := World.cell?_setCells_in g (byteCells s) l.length w (fun i hi => by rw [byteCells_length] at hi; exact (h6 _ (by omega)).1) (j - l.length) hj
        rw [show 0 + j = l.length + (j - l.length) by omega, this]
        have q2 := List.getElem?_eq_some_iff.1 hu
        exact congrArg some q2.2
    · intro j hj
      exact ⟨World.isSome_setCells g (byteCells s) l.length w _ (h6 j hj).1, by rw [World.frozen?_setCells]; exact (h6 j hj).2⟩
    · have hk := Keep.sets (X := [g]) (R := g) (byteCells s) l.length (Keep.refl [g] w) (Or.inl (by simp))
      exact ⟨hk.os, hk.tape, hk.output, hk.size, fun k hk' hne => hk.block k hk' (by simpa [Value.ownBlock] using hne)⟩
  · have hold : (Builtin.firstCells i0.size l.length (.slice (some ⟨g, 0, none⟩) l.length cap)).run Tryd.prog w.drew = .ok (bc l).toArray w.drew :=
      run_firstCells_some (P := Tryd.prog) w.drew i0.size l.length ⟨g, 0, none⟩ l.length cap (bc l) (by rw [hz1, bc_len, Nat.mul_one]) (fun j u hu => by rw [Addr.add_mid]; exact h5 j u hu)
    have hr := run_append_grow_src (P := Tryd.prog) w 66 9 ty 5 i0 (.int .u8 0) Tryd.underlying66 hi0 hz0 (some ⟨g, 0, none⟩) l.length cap (bc l) hold (.string s) s.size (byteCells s) hsrc (by omega) (by omega) (by rw [hz2]; exact growslice_fits (by omega) (by omega))
    have hge := grownCap_ge w (l.length + s.size) cap 5
    have hcm : grownCap w (l.length + s.size) cap 5 ≤ maxLen := grownCap_le_maxLen w (l.length + s.size) cap 5 (by unfold maxLen; omega)
    obtain ⟨cs, hcs⟩ : ∃ cs, (bc l ++ byteCells s).toArray ++ Builtin.zeroCells (Value.int .u8 0).cells (grownCap w (l.length + s.size) cap 5 - (l.length + s.size)) = cs := ⟨_, rfl⟩
    rw [hcs] at hr
    have hnew : (w.drew.alloc (.cells cs 5)).heap[w.heap.size]? = some (.cells cs 5 (0, 0)) := World.alloc_heap_new w.drew _
    have hz1' : (Value.int IntKind.u8 0).cells.size = 1 := rfl
    have hsz : cs.size = grownCap w (l.length + s.size) cap 5 := by
      rw [← hcs]
      simp only [Array.size_append, List.size_toArray, List.length_append, size_zeroCells, hz1', bc_len, byteCells_length]
      omega
    refine ⟨_, _, hr, ⟨w.heap.size, _, by rw [List.length_append, hlen], hB, by simp, by rw [List.length_append, hlen]; exact hge, hcm, ?_, ?_⟩, ⟨rfl, rfl, rfl, by simp, fun k hk _ => Below.heap_alloc _ _ _ hk⟩, Or.inr rfl⟩
    · intro j u hu
      have hj := (List.getElem?_eq_some_iff.1 hu).1
      rw [bc_app, ← hbc] at hu hj
      rw [cell_of_row _ _ _ _ _ _ hnew, Nat.zero_add, ← hcs, Array.getElem?_append_left (by simpa using hj)]
      simpa using hu
    · intro j hj
      constructor
      · rw [cell_of_row _ _ _ _ _ _ hnew, Array.getElem?_eq_getElem (by rw [hsz]; exact hj)]
        rfl
      · simp only [World.frozen?, hnew]
        simp
/-- A text's bytes, put behind bytes of one's own. -/
theorem wpList_append_bx {w : World} {ops : Array Oper} {rest : List Oper} {o : Oper} {a : Act} {Q : Exit → Act → World → Prop} (hgd : o.guard = none) (sl x : Operand)
    (ho : o.op = .call { callee := .builtin .append, args := #[sl, x], argTypes := #[66, 9] }) {B : Nat} {v : Value} {l : Bs} (hs : a.eval sl = v) (hb : Bx w B v l) (s : ByteArray) (hx : a.eval x = .string s) (hn : l.length + s.size ≤ 1000000) (hB : B ≤ w.heap.size)
    (h : ∀ v' w', Bx w' B v' (l ++ s.data.toList) → w.grownBy w' v.ownBlock → wpList Tryd.prog ops Q rest (a.put o.dst v') w') : wpList Tryd.prog ops Q (o :: rest) a w := by
  refine wpList_plain hgd fun K hK => ?_
  obtain ⟨v', w', hr, h2, h3, -⟩ := hb.app s hn hB o.type
  unfold Oper.wp execOp
  simp only [ho, resolve, invoke, builtin, Sem.run_bind, Sem.run_pure, Result.andThen_ok, List.map_toArray, List.map_cons, List.map_nil, hs, hx, hr]
  exact hK _ _ (h v' w' h2 h3)
end Go.Proofs.YtemcpjflpggaeaaDoor.Dk
