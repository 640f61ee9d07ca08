import Derived.Test.YtnpjdloagoaanaaDoorSumJ
set_option linter.unusedSimpArgs false
set_option linter.unusedVariables false
namespace Go.Proofs.YtnpjdloagoaanaaDoor
open Go.RowKit

def digsB : ByteArray := ⟨#[48, 49, 50, 51, 52, 53, 54, 55, 56, 57, 97, 98, 99, 100, 101, 102]⟩
theorem digs_get : ∀ d : Nat, d < 16 → (#[48, 49, 50, 51, 52, 53, 54, 55, 56, 57, 97, 98, 99, 100, 101, 102] : Array UInt8)[d]? = some (dig d) := by decide
theorem digit_at (d : Nat) (hd : d < 16) (w : World) : (Instr.index 9 (.string ⟨#[48, 49, 50, 51, 52, 53, 54, 55, 56, 57, 97, 98, 99, 100, 101, 102]⟩) (.int .u8 (d : Int))).run Tryd.prog w = .ok (.int .u8 ((dig d).toNat : Int)) w := by
  have h0 : (0 : Int) ≤ (d : Int) := by omega
  have h1 : (⟨#[48, 49, 50, 51, 52, 53, 54, 55, 56, 57, 97, 98, 99, 100, 101, 102]⟩ : ByteArray)[d]? = some (dig d) := by
    have := digs_get d hd
    rw [Array.getElem?_eq_some_iff] at this
    obtain ⟨h, e⟩ := this
    exact (getElem?_pos (⟨#[48, 49, 50, 51, 52, 53, 54, 55, 56, 57, 97, 98, 99, 100, 101, 102]⟩ : ByteArray) d h).trans (congrArg some e)
  simp [Instr.index, asIntOf, Sem.run_bind, run_underlying Tryd.underlying9, h0, h1, Result.andThen]
theorem hex_take (s : ByteArray) (j : Nat) (h : j < s.size) : hexL (s.data.toList.take (j + 1)) = hexL (s.data.toList.take j) ++ hex1 s[j] := by
  rw [List.take_succ_eq_append_getElem (by simpa using h), hexL, hexL, List.flatMap_append]; simp; rfl
theorem hex_len (l : List UInt8) : (hexL l).length = 2 * l.length := by
  induction l with
  | nil => rfl
  | cons a r ih => rw [hexL, List.flatMap_cons, List.length_append]; rw [hexL] at ih; rw [ih]; simp [hex1]; omega
theorem byte_cell (l : List UInt8) (c : UInt8) : Lib.byteCells l ++ [.int .u8 (c.toNat : Int)] = Lib.byteCells (l ++ [c]) := by simp [Lib.byteCells]

set_option maxRecDepth 100000 in
set_option maxHeartbeats 800000 in
theorem hex_any (s : ByteArray) (w : World) (hs : s.size ≤ 400) :
    Calls Tryd.prog 11 #[.string s] w fun e w' => e = .returned (.string ⟨(hexL s.data.toList).toArray⟩) ∧ Below w.heap.size w w' := by
  go_enter Tryd.func11, Tryd.ntmps11
  go_wp2
  go_loopw [7] (fun i wr => ∃ j : Nat, j ≤ s.size ∧ i = .int .i64 j ∧ Lib.IsBuilder 50 5 w.heap.size w.heap.size (Lib.byteCells (hexL (s.data.toList.take j))) wr ∧ Below w.heap.size w wr) (fun i _ => s.size - (intOf i).toNat)
  case atStart => exact ⟨0, by omega, rfl, builder_new w, below_box _ _⟩
  case round =>
    obtain ⟨j, hj, rfl, hBu, hnx⟩ := hrel
    have hbl := builder_lt hBu
    have HBU := Hid.mk hBu
    have HNX := Hid.mk hnx
    clear hBu hnx
    by_cases hlt : j < s.size
    · obtain ⟨c, hc⟩ : ∃ c, s[j] = c := ⟨_, rfl⟩
      have hc8 := c.toNat_lt
      obtain ⟨d1, hd1⟩ : ∃ d, c.toNat / 16 = d := ⟨_, rfl⟩
      obtain ⟨d2, hd2⟩ : ∃ d, c.toNat % 16 = d := ⟨_, rfl⟩
      have e1 : (c.toNat : Int) / 16 = (d1 : Int) := by omega
      have e2 : bits .and .u8 (c.toNat : Int) 15 = (d2 : Int) := (u8_and15 (x := (c.toNat : Int)) (by omega) (by omega)).trans (by omega)
      have x1 := digit_at d1 (by omega)
      have x2 := digit_at d2 (by omega)
      have HX : Hid (hex1 c = [dig d1, dig d2]) := by show hex1 c = _; rw [hex1, hd1, hd2]
      have HC := Hid.mk hc
      clear hd1 hd2 hc8
      go_wp2_with fail
      have hl1 : (Lib.byteCells (hexL (s.data.toList.take j))).length ≤ 1000 := by
        rw [Lib.byteCells_length, hex_len, List.length_take]; omega
      have hWR := Tryd.Builder_WriteByte w.heap.size w.heap.size (Lib.byteCells (hexL (s.data.toList.take j))) ((dig d1).toNat : Int) wr HBU.out (by omega) (by omega)
      refine hWR.mono ?_
      rintro e w5 ⟨rfl, hB5, hb5⟩
      have hs5 := hb5.size
      have hWR2 := Tryd.Builder_WriteByte w.heap.size w.heap.size _ ((dig d2).toNat : Int) w5 (Or.inr hB5) (by rw [List.length_append]; simp; omega) (by omega)
      have HW2 := Hid.mk hWR2
      clear hWR hWR2 hB5 hl1
      go_wp2_with fail
      refine HW2.out.mono ?_
      rintro e w6 ⟨rfl, hB6, hb6⟩
      have hB6' : Lib.IsBuilder 50 5 w.heap.size w.heap.size (Lib.byteCells (hexL (s.data.toList.take (j + 1)))) w6 := by
        rw [hex_take s j hlt, hc, HX.out, show ([dig d1, dig d2] : List UInt8) = [dig d1] ++ [dig d2] from rfl, ← List.append_assoc, ← byte_cell, ← byte_cell]; exact Or.inr hB6
      have HB6 := Hid.mk hB6'
      have hbl6 : Below w.heap.size w w6 := (HNX.out.trans hb5).trans hb6
      clear hB6 hB6' HW2 x1 x2
      go_wp2
      go_roundw
      case rel => exact ⟨j + 1, by omega, by go_num, HB6.out, hbl6⟩
      case measure => simp [intOf]; omega
    · have hje : j = s.size := by omega
      have hB := HBU.out
      rw [hje, List.take_of_length_le (by simp)] at hB
      have HST := Hid.mk (Tryd.Builder_String_any w.heap.size w.heap.size (hexL s.data.toList) wr hB (by omega))
      clear hB hje
      go_wp2_with (go_at_call 21; refine HST.out.mono ?_; rintro e w5 ⟨rfl, hb5⟩)
      go_ret
      exact ⟨rfl, HNX.out.trans hb5⟩
end Go.Proofs.YtnpjdloagoaanaaDoor
