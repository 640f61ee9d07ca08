import Derived.Test.YtnpjdloagoaanaaDoorSumO
set_option linter.unusedSimpArgs false
set_option linter.unusedVariables false
namespace Go.Proofs.YtnpjdloagoaanaaDoor
open Go.RowKit

/-- What the table of trailing zeros reads as, at the one place that is asked. -/
def EnvZ (w : World) : Prop := w.cell? ⟨5, 15, none⟩ = some (.int .u8 4)
theorem EnvZ.below {w w' : World} (h : EnvZ w) (hb : Below w.heap.size w w') : EnvZ w' :=
  (hb.cell (p := ⟨5, 15, none⟩) (World.block_lt_of_cell? w _ h)).trans h

set_option maxHeartbeats 400000 in
theorem tz64_any (w : World) (hE : EnvZ w) : Calls Tryd.prog 91 #[.int .u64 16] w fun e w' => e = .returned (.int .i64 4) ∧ w' = w := by
  have hc : w.cell? ⟨5, 15, none⟩ = some (.int .u8 4) := hE
  have h1 : IntKind.u64.wrap (-16) = 18446744073709551600 := by decide
  have h2 : bits .and .u64 16 18446744073709551600 = 16 := by decide
  go_enter Tryd.func91, Tryd.ntmps91
  go_wp2
  go_ret
  exact ⟨rfl, rfl⟩
set_option maxHeartbeats 400000 in
theorem tz_any (w : World) (hE : EnvZ w) : Calls Tryd.prog 76 #[.int .u64 16] w fun e w' => e = .returned (.int .i64 4) ∧ w' = w := by
  have HT := Hid.mk (tz64_any w hE)
  go_enter Tryd.func76, Tryd.ntmps76
  go_wp2_with (go_at_call 91; refine HT.out.mono ?_; rintro e w' ⟨rfl, rfl⟩)
  go_ret
  exact ⟨rfl, rfl⟩
set_option maxHeartbeats 400000 in
theorem pow2_any (w : World) : Calls Tryd.prog 75 #[.int .i64 16] w fun e w' => e = .returned (.bool true) ∧ w' = w := by
  have h2 : bits .and .i64 16 15 = 0 := by decide
  go_enter Tryd.func75, Tryd.ntmps75
  go_wp2
  go_ret
  exact ⟨rfl, rfl⟩

theorem digs36 : ∀ d : Nat, d < 16 → (#[48, 49, 50, 51, 52, 53, 54, 55, 56, 57, 97, 98, 99, 100, 101, 102, 103, 104, 105, 106, 107, 108, 109, 110, 111, 112, 113, 114, 115, 116, 117, 118, 119, 120, 121, 122] : Array UInt8)[d]? = some (dig d) := by decide
theorem digit36 (d : Nat) (hd : d < 16) (w : World) : (Instr.index 9 (.string ⟨#[48, 49, 50, 51, 52, 53, 54, 55, 56, 57, 97, 98, 99, 100, 101, 102, 103, 104, 105, 106, 107, 108, 109, 110, 111, 112, 113, 114, 115, 116, 117, 118, 119, 120, 121, 122]⟩) (.int .u64 (d : Int))).run Tryd.prog w = .ok (.int .u8 ((dig d).toNat : Int)) w := by
  have h0 : (0 : Int) ≤ (d : Int) := by omega
  have h1 : (⟨#[48, 49, 50, 51, 52, 53, 54, 55, 56, 57, 97, 98, 99, 100, 101, 102, 103, 104, 105, 106, 107, 108, 109, 110, 111, 112, 113, 114, 115, 116, 117, 118, 119, 120, 121, 122]⟩ : ByteArray)[d]? = some (dig d) := by
    have := digs36 d hd
    rw [Array.getElem?_eq_some_iff] at this
    obtain ⟨h, e⟩ := this
    exact (getElem?_pos (⟨#[48, 49, 50, 51, 52, 53, 54, 55, 56, 57, 97, 98, 99, 100, 101, 102, 103, 104, 105, 106, 107, 108, 109, 110, 111, 112, 113, 114, 115, 116, 117, 118, 119, 120, 121, 122]⟩ : ByteArray) d h).trans (congrArg some e)
  simp [Instr.index, asIntOf, Sem.run_bind, run_underlying Tryd.underlying9, h0, h1, Result.andThen]
theorem to_string_at (w : World) (b o : Nat) (l : List UInt8) (c : Nat) (h : ∀ j v, (bc l)[j]? = some v → w.cell? ⟨b, o + j, none⟩ = some v) : (convert 48 9 (.slice (some ⟨b, o, none⟩) l.length c)).run Tryd.prog w = .ok (.string ⟨l.toArray⟩) w := by
  rw [run_convert_bytes_string (P := Tryd.prog) w 48 9 5 _ _ _ Tryd.underlying48 Tryd.underlying5 Tryd.underlying9]
  have hl := run_loadCells_list (P := Tryd.prog) w ⟨b, o, none⟩ (bc l) (fun j v hv => by
    have : (⟨b, o, none⟩ : Addr).add j = ⟨b, o + j, none⟩ := by rw [Addr.add_mid]
    rw [this]; exact h j v hv)
  have e : bc l = (l.map fun c => ((c.toNat : Nat) : Int)).map (Value.int .u8) := by simp [bc]
  have hll : (bc l).length = l.length := by simp [bc]
  rw [hll, e] at hl
  rw [run_bytesToString (P := Tryd.prog) w ⟨b, o, none⟩ l.length c _ hl]
  congr 2
  exact str_of (by rw [foldl_push]; rfl)

theorem and15 (u : Nat) (h : u < 512) : bits .and .u64 (u : Int) 15 = ((u % 16 : Nat) : Int) := by
  have := u64_and_nat u 15 (by omega) (by omega)
  have e : u &&& 15 = u % 16 := Nat.and_two_pow_sub_one_eq_mod u 4
  rw [e] at this
  exact this

def zeros65 : List Value := bc (List.replicate 65 0)

set_option maxRecDepth 100000 in
set_option maxHeartbeats 1600000 in
theorem bits16_any (c : Nat) (w : World) (hc : c < 256) (hE : EnvZ w) :
    Calls Tryd.prog 60 #[.slice none 0 0, .int .u64 (((c + 256 : Nat)) : Int), .int .i64 16, .bool false, .bool false] w fun e w' => e = .returned (.tuple #[.slice none 0 0, .string ⟨#[49, dig (c / 16), dig (c % 16)]⟩]) ∧ Below w.heap.size w w' := by
  have HE := Hid.mk (fun o => tz_any (w.alloc o) (hE.below (below_box _ _)))
  clear hE
  obtain ⟨u, hu⟩ : ∃ u, c + 256 = u := ⟨_, rfl⟩
  rw [hu]
  have hul : 256 ≤ u := by omega
  have huh : u < 512 := by omega
  have HU := Hid.mk hu
  clear hu
  go_enter Tryd.func60, Tryd.ntmps60
  go_wp2_with (first | (go_at_call 75; refine (pow2_any _).mono ?_; rintro e w' ⟨rfl, rfl⟩) | (go_at_call 76; refine (HE.out _).mono ?_; rintro e w' ⟨rfl, rfl⟩))
  obtain ⟨d0, hd0⟩ : ∃ d, u % 16 = d := ⟨_, rfl⟩
  obtain ⟨x1, hx1⟩ : ∃ d, u / 16 = d := ⟨_, rfl⟩
  obtain ⟨d1, hd1⟩ : ∃ d, x1 % 16 = d := ⟨_, rfl⟩
  have e0 : bits .and .u64 (u : Int) 15 = (d0 : Int) := by rw [and15 u huh, hd0]
  have e1 : bits .and .u64 (x1 : Int) 15 = (d1 : Int) := by rw [and15 x1 (by omega), hd1]
  have q0 : (u : Int) / 16 = (x1 : Int) := by omega
  have q1 : (x1 : Int) / 16 = 1 := by omega
  have g0 := digit36 d0 (by omega)
  have g1 := digit36 d1 (by omega)
  have g2 : ∀ w, (Instr.index 9 (.string ⟨#[48, 49, 50, 51, 52, 53, 54, 55, 56, 57, 97, 98, 99, 100, 101, 102, 103, 104, 105, 106, 107, 108, 109, 110, 111, 112, 113, 114, 115, 116, 117, 118, 119, 120, 121, 122]⟩) (.int .u64 1)).run Tryd.prog w = .ok (.int .u8 ((dig 1).toNat : Int)) w := digit36 1 (by omega)
  have hx1l : 16 ≤ x1 := by omega
  have hx1h : x1 < 32 := by omega
  have HD : Hid (dig (c / 16) = dig d1 ∧ dig (c % 16) = dig d0) := by
    have := HU.out
    exact ⟨by congr 1; omega, by congr 1; omega⟩
  clear hd0 hx1 hd1
  go_loopw [1, 13] (fun v i wr => ((v = .int .u64 (u : Int) ∧ i = .int .i64 65 ∧ Row wr w.heap.size zeros65) ∨ (v = .int .u64 (x1 : Int) ∧ i = .int .i64 64 ∧ Row wr w.heap.size (zeros65.set 64 (.int .u8 ((dig d0).toNat : Int)))) ∨ (v = .int .u64 1 ∧ i = .int .i64 63 ∧ Row wr w.heap.size ((zeros65.set 64 (.int .u8 ((dig d0).toNat : Int))).set 63 (.int .u8 ((dig d1).toNat : Int))))) ∧ Below w.heap.size w wr) (fun _ i _ => (intOf i).toNat)
  case atStart => exact ⟨Or.inl ⟨rfl, rfl, Row.new' _ _ _ _ _ rfl rfl⟩, below_box _ _⟩
  case round =>
    obtain ⟨⟨rfl, rfl, R⟩ | ⟨rfl, rfl, R⟩ | ⟨rfl, rfl, R⟩, hb⟩ := hrel
    · have hc := (R 64 (.int .u8 0) rfl).1
      have hf := (R 64 (.int .u8 0) rfl).2
      have HR := Hid.mk (And.intro R hb)
      clear R hb
      have t1 : (16 : Int) ≤ (u : Int) := by omega
      go_wp2
      go_roundw
      case rel => exact ⟨Or.inr (Or.inl ⟨rfl, rfl, HR.out.1.set _ _⟩), HR.out.2.setCell (Nat.le_refl _) _⟩
      case measure => simp [intOf]
    · have hc := (R 63 (.int .u8 0) rfl).1
      have hf := (R 63 (.int .u8 0) rfl).2
      have HR := Hid.mk (And.intro R hb)
      clear R hb
      have t1 : (16 : Int) ≤ (x1 : Int) := by omega
      go_wp2
      go_roundw
      case rel => exact ⟨Or.inr (Or.inr ⟨rfl, rfl, HR.out.1.set _ _⟩), HR.out.2.setCell (Nat.le_refl _) _⟩
      case measure => simp [intOf]
    · have hc := (R 62 (.int .u8 0) rfl).1
      have hf := (R 62 (.int .u8 0) rfl).2
      have HR := Hid.mk (And.intro R hb)
      have R2 := R.set 62 (.int .u8 ((dig 1).toNat : Int))
      have hcv : (convert 48 9 (.slice (some ⟨w.heap.size, 62, none⟩) 3 3)).run Tryd.prog (wr.setCell ⟨w.heap.size, 62, none⟩ (.int .u8 ((dig 1).toNat : Int))) = .ok (.string ⟨#[49, dig d1, dig d0]⟩) (wr.setCell ⟨w.heap.size, 62, none⟩ (.int .u8 ((dig 1).toNat : Int))) := to_string_at (wr.setCell ⟨w.heap.size, 62, none⟩ (.int .u8 ((dig 1).toNat : Int))) w.heap.size 62 [49, dig d1, dig d0] 3 (fun j v hv => by
        match j, hv with
        | 0, hv => exact (R2 62 v hv).1
        | 1, hv => exact (R2 63 v hv).1
        | 2, hv => exact (R2 64 v hv).1
        | j + 3, hv => simp [bc] at hv)
      clear R R2 hb
      go_wp2
      go_ret2
      refine ⟨?_, HR.out.2.setCell (Nat.le_refl _) _⟩
      rw [HD.out.1, HD.out.2]
      rfl

set_option maxHeartbeats 800000 in
theorem fmt16_any (c : Nat) (w : World) (hc : c < 256) (hE : EnvZ w) :
    Calls Tryd.prog 26 #[.int .i64 (((c + 256 : Nat)) : Int), .int .i64 16] w fun e w' => e = .returned (.string ⟨#[49, dig (c / 16), dig (c % 16)]⟩) ∧ Below w.heap.size w w' := by
  have hB := bits16_any c w hc hE
  have hI : Calls Tryd.prog 40 #[.int .i64 (((c + 256 : Nat)) : Int), .int .i64 16] w fun e w' => e = .returned (.string ⟨#[49, dig (c / 16), dig (c % 16)]⟩) ∧ Below w.heap.size w w' := by
    have HB := Hid.mk hB
    clear hB
    generalize hu : c + 256 = u at *
    have hu1 : ¬ ((u : Int) < 0) := by omega
    have hw : IntKind.u64.wrap (u : Int) = (u : Int) := by rw [IntKind.wrap_u64]; omega
    clear hu
    go_enter Tryd.func40, Tryd.ntmps40
    go_wp2_with (go_at_call 60; refine HB.out.mono ?_; rintro e w5 ⟨rfl, hb5⟩)
    go_ret
    exact ⟨rfl, hb5⟩
  have HI := Hid.mk hI
  clear hI hB
  generalize c + 256 = u at *
  go_enter Tryd.func26, Tryd.ntmps26
  go_wp2_with (go_at_call 40; refine HI.out.mono ?_; rintro e w5 ⟨rfl, hb5⟩)
  go_ret
  exact ⟨rfl, hb5⟩

set_option maxRecDepth 100000 in
set_option maxHeartbeats 800000 in
theorem refHex_any (s : ByteArray) (w : World) (hs : s.size ≤ 400) (hE : EnvZ w) :
    Calls Tryd.prog 12 #[.string s] w fun e w' => e = .returned (.string ⟨(hexL s.data.toList).toArray⟩) ∧ Below w.heap.size w w' := by
  have HE := Hid.mk hE
  clear hE
  go_enter Tryd.func12, Tryd.ntmps12
  go_wp2
  go_loopw [3, 7] (fun v i wr => ∃ j : Nat, ∃ o : ByteArray, j ≤ s.size ∧ i = .int .i64 j ∧ v = .string o ∧ o.data.toList = hexL (s.data.toList.take j) ∧ o.size = 2 * j ∧ Below w.heap.size w wr) (fun _ i _ => s.size - (intOf i).toNat)
  case atStart => exact ⟨0, ⟨#[]⟩, by omega, rfl, rfl, rfl, rfl, Below.refl _ _⟩
  case round =>
    obtain ⟨j, o, hj, rfl, rfl, ho, hos, hb⟩ := hrel
    have HO := Hid.mk (And.intro ho (And.intro hos hb))
    by_cases hlt : j < s.size
    · have n2 : ¬ 9223372036854775807 < o.size + 2 := by omega
      obtain ⟨c, hc⟩ : ∃ c, s[j] = c := ⟨_, rfl⟩
      have hc8 := c.toNat_lt
      have hF := fmt16_any c.toNat wr (by omega) (HE.out.below hb |> fun h => h)
      rw [show (((c.toNat + 256 : Nat)) : Int) = (c.toNat : Int) + 256 by omega] at hF
      have HF := Hid.mk hF
      have HC := Hid.mk hc
      clear hF ho hos hb
      go_wp2_with (go_at_call 26; refine HF.out.mono ?_; rintro e w5 ⟨rfl, hb5⟩)
      go_roundw
      case rel =>
        refine ⟨j + 1, _, by omega, by go_num, rfl, ?_, ?_, bel_then HO.out.2.2 hb5⟩
        · rw [strcat_data, HO.out.1, hex_take s j hlt, HC.out]; rfl
        · rw [ByteArray.size_append, HO.out.2.1]; show _ + 2 = _; omega
      case measure => simp [intOf]; omega
    · have hje : j = s.size := by omega
      go_wp2
      go_ret
      refine ⟨ret_strB ?_, HO.out.2.2⟩
      rw [HO.out.1, hje, List.take_of_length_le (by simp)]
end Go.Proofs.YtnpjdloagoaanaaDoor
