import Derived.Test.YtemcpjflpggaeaaDoorSumH
import Derived.Test.YtemcpjflpggaeaaDoorShelf
set_option linter.unusedSimpArgs false
set_option linter.unusedVariables false
namespace Go.Proofs.YtemcpjflpggaeaaDoor
open Go.RowKit

theorem low8 (n : Nat) : low n 8 = be8 n := by simp [low, be8]
theorem low4 (x : BitVec 32) : low x.toNat 4 = bytes4 x := by simp [low, bytes4]
theorem strcat_data (a b : ByteArray) : (a ++ b).data.toList = a.data.toList ++ b.data.toList := by simp
theorem rep_zero (c : Nat) : Lib.repeatL [0] c = List.replicate c 0 := by
  induction c with
  | zero => rfl
  | succ c ih => rw [Lib.repeatL, ih]; rfl
theorem size_of {x : ByteArray} {l : List UInt8} (h : x.data.toList = l) : x.size = l.length := by rw [← h]; simp

set_option maxRecDepth 100000 in
set_option maxHeartbeats 800000 in
theorem last_any (rest : ByteArray) (n : Nat) (w : World) (hr : rest.size < 64) (hn : n ≤ 1000) :
    Calls Tryd.prog 60 #[.string rest, .int .i64 n] w fun e w' => e = .returned (.string ⟨(lastL rest.data.toList n).toArray⟩) ∧ Below w.heap.size w w' := by
  have hm : ((119 : Int) - (rest.size : Int)).tmod 64 = (((119 - rest.size) % 64 : Nat) : Int) := by
    rw [Int.tmod_eq_emod_of_nonneg (by omega)]; omega
  obtain ⟨z, hz⟩ : ∃ z, (119 - rest.size) % 64 = z := ⟨_, rfl⟩
  have hz64 : z < 64 := by omega
  rw [hz] at hm
  have hR : ∀ w, Calls Tryd.prog 11 #[.string ⟨#[0]⟩, .int .i64 z] w fun e w' => ∃ x : ByteArray, e = .returned (.string x) ∧ x.data.toList = List.replicate z 0 ∧ Below w.heap.size w w' := fun w => by
    refine (Tryd.strings_Repeat ⟨#[0]⟩ z w (by omega) (by simp [ByteArray.size]; omega)).mono ?_
    rintro e w' ⟨rfl, hb⟩
    exact ⟨_, rfl, by simp [rep_zero], hb⟩
  have hB : ∀ w, Calls Tryd.prog 61 #[.int .u64 ((8 * n : Nat) : Int), .int .i64 8] w fun e w' => ∃ x : ByteArray, e = .returned (.string x) ∧ x.data.toList = be8 (8 * n) ∧ Below w.heap.size w w' := fun w => by
    refine (big_any (8 * n) 8 w (by omega) (by omega)).mono ?_
    rintro e w' ⟨rfl, hb⟩
    exact ⟨_, rfl, by simp [low8], hb⟩
  have HR := Hid.mk hR
  have HB := Hid.mk hB
  have HZ := Hid.mk hz
  clear hR hB hz
  have w8 : IntKind.u64.wrap (8 * (n : Int)) = ((8 * n : Nat) : Int) := by rw [IntKind.wrap_u64]; omega
  have w1 : IntKind.u64.wrap (n : Int) = (n : Int) := by rw [IntKind.wrap_u64]; omega
  go_enter Tryd.func60, Tryd.ntmps60
  go_wp2_with (first
    | (go_at_call 11; go_loud (refine (HR.out _).mono ?_; rintro e w1 ⟨x, rfl, hx, hb1⟩; have sx : x.size = z := (size_of hx).trans List.length_replicate; have n1 : ¬ 9223372036854775807 < rest.size + 1 + x.size := by omega))
    | (go_at_call 61; refine (HB.out _).mono ?_; rintro e w2 ⟨y, rfl, hy, hb2⟩; have sy : y.size = 8 := size_of hy; have n2 : ¬ 9223372036854775807 < rest.size + 1 + z + y.size := by omega))
  go_ret
  refine ⟨ret_strB ?_, bel_then hb1 hb2⟩
  rw [strcat_data, strcat_data, strcat_data, hx, hy, lastL]
  have : rest.data.toList.length = rest.size := by simp
  rw [this, HZ.out]
  simp

theorem owns_below {w w' : World} {base : Nat} {e : TypeId} {size : Nat} {v : Value} {n : Nat} {xs : List Value} (h : w.ownsRow base e size v n xs) (hb : Below w.heap.size w w') : w'.ownsRow base e size v n xs :=
  h.kept (grown_below hb none) (by cases v.ownBlock <;> simp)
theorem builder_below {T e : TypeId} {B b : Nat} {bs : List Value} {w w' : World} (h : Lib.IsBuilder T e B b bs w) (hb : Below w.heap.size w w') : Lib.IsBuilder T e B b bs w' := by
  have go : ∀ p, Lib.BuilderAt T e B b p bs w → Lib.BuilderAt T e B b p bs w' := by
    rintro p ⟨h1, v, h2, h3, h4⟩
    have hl : b < w.heap.size := by
      rcases Nat.lt_or_ge b w.heap.size with h | h
      · exact h
      · rw [Array.getElem?_eq_none h] at h2; simp at h2
    exact ⟨h1, v, (hb.block b hl).trans h2, owns_below h3 hb, h4⟩
  rcases h with h | h
  · exact Or.inl (go _ h)
  · exact Or.inr (go _ h)
theorem builder_lt {T e : TypeId} {B b : Nat} {bs : List Value} {w : World} (h : Lib.IsBuilder T e B b bs w) : b < w.heap.size := by
  rcases h with h | h <;> exact h.lt
theorem builder_new (w : World) : Lib.IsBuilder 68 5 w.heap.size w.heap.size [] (w.alloc (.cells #[.pointer none, .slice none 0 0] 68)) :=
  Or.inl ⟨Nat.le_refl _, .slice none 0 0, heap_alloc_new _ _, World.ownsRow_nil _ _ _ _, by simp [Value.ownBlock]⟩
theorem str_cells (l : List UInt8) : Lib.strCells ⟨l.toArray⟩ = Lib.byteCells l := by simp [Lib.strCells, Lib.byteCells]

end Go.Proofs.YtemcpjflpggaeaaDoor
