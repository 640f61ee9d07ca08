import Derived.Test.YtemcpjflpggaeaaDoorSumG
import Derived.Laws.BytesString
import Derived.Laws.MakeOwn
set_option linter.unusedSimpArgs false
set_option linter.unusedVariables false
namespace Go.Proofs.YtemcpjflpggaeaaDoor
open Go.RowKit

/-- A number's low bytes, the greatest first. -/
def low (n : Nat) : Nat → List UInt8
  | 0 => []
  | k + 1 => UInt8.ofNat (n / 2 ^ (8 * k)) :: low n k
theorem low_len (n : Nat) : ∀ k, (low n k).length = k
  | 0 => rfl
  | k + 1 => by simp [low, low_len n k]
def bc (l : List UInt8) : List Value := l.map fun c => .int .u8 (c.toNat : Int)
def lowTo (n S k : Nat) : List UInt8 := List.replicate (S - k) 0 ++ low n k
theorem lowTo_len (n S k : Nat) (h : k ≤ S) : (lowTo n S k).length = S := by simp [lowTo, low_len]; omega
theorem lowTo_set (n S k : Nat) (h : k < S) : (lowTo n S k).set (S - 1 - k) (UInt8.ofNat (n / 2 ^ (8 * k))) = lowTo n S (k + 1) := by
  obtain ⟨m, hm⟩ : ∃ m, S - k = m + 1 := ⟨S - k - 1, by omega⟩
  have e1 : S - 1 - k = m := by omega
  have e2 : S - (k + 1) = m := by omega
  rw [lowTo, lowTo, e1, e2, hm, low, List.replicate_succ', List.append_assoc, List.set_append_right _ _ (by simp)]
  simp
theorem info5 : (Tryd.prog.info? 5).map (fun i => (i.zero, i.size, i.bytes)) = some (some (.int .u8 0), 1, 1) := by kernel_rfl
theorem made_rep (S : Nat) : (madeCells #[.int .u8 0] S).toList = bc (List.replicate S 0) := by
  simp [madeCells, bc]
  apply List.ext_getElem
  · simp
  · intro i h1 h2
    simp [Nat.mod_one]
theorem make_bytes (S : Nat) (hS : S ≤ 1000) (w : World) : (Instr.makeSlice 66 (.int .i64 (S : Int)) (.int .i64 (S : Int))).run Tryd.prog w = .ok (.slice (some ⟨w.heap.size, 0, none⟩) S S) (w.alloc (.cells (madeCells #[.int .u8 0] S) 5)) := by
  obtain ⟨i0, hi, hz0, hz1, hz2⟩ := info_parts info5
  have := run_makeSlice (P := Tryd.prog) (w := w) 66 5 i0 (.int .u8 0) Tryd.underlying66 hi hz0 .i64 .i64 S S (by omega) (by omega) (by rw [hz1]; omega) (by rw [hz2]; omega) (by omega)
  rw [hz1, Nat.mul_one] at this
  exact this
theorem byte_val (m : Nat) : ((m : Int) % 256) = ((UInt8.ofNat m).toNat : Int) := by
  rw [UInt8.toNat_ofNat']; omega
theorem foldl_push (l : List UInt8) (s : ByteArray) : ((l.map fun c => ((c.toNat : Nat) : Int)).foldl (fun r n => r.push (UInt8.ofNat n.toNat)) s).data.toList = s.data.toList ++ l := by
  induction l generalizing s with
  | nil => simp
  | cons a r ih => rw [List.map_cons, List.foldl_cons, ih]; simp [ByteArray.push]
theorem to_string (w : World) (b : Nat) (l : List UInt8) (c : Nat) (h : Row w b (bc l)) : (convert 66 9 (.slice (some ⟨b, 0, none⟩) l.length c)).run Tryd.prog w = .ok (.string ⟨l.toArray⟩) w := by
  rw [run_convert_bytes_string (P := Tryd.prog) w 66 9 5 _ _ _ Tryd.underlying66 Tryd.underlying5 Tryd.underlying9]
  have hl := run_loadCells_list (P := Tryd.prog) w ⟨b, 0, none⟩ (bc l) (fun j v hv => by
    have : (⟨b, 0, none⟩ : Addr).add j = ⟨b, j, none⟩ := by rw [Addr.add_mid, Nat.zero_add]
    rw [this]; exact (h j v hv).1)
  have e : bc l = (l.map fun c => ((c.toNat : Nat) : Int)).map (Value.int .u8) := by simp [bc]
  have hll : (bc l).length = l.length := by simp [bc]
  rw [hll, e] at hl
  rw [run_bytesToString (P := Tryd.prog) w ⟨b, 0, none⟩ l.length c _ hl]
  congr 2
  exact str_of (by rw [foldl_push]; rfl)

set_option maxRecDepth 100000 in
set_option maxHeartbeats 800000 in
theorem big_any (n S : Nat) (w : World) (hn : n < 18446744073709551616) (hS : S ≤ 8) :
    Calls Tryd.prog 61 #[.int .u64 n, .int .i64 S] w fun e w' => e = .returned (.string ⟨(low n S).toArray⟩) ∧ Below w.heap.size w w' := by
  have hmk := make_bytes S (by omega)
  go_enter Tryd.func61, Tryd.ntmps61
  go_wp2
  clear hmk
  go_loopw [10] (fun i wr => ∃ k : Nat, k ≤ S ∧ i = .int .i64 k ∧ Row wr w.heap.size (bc (lowTo n S k)) ∧ Below w.heap.size w wr) (fun i _ => S - (intOf i).toNat)
  case atStart => exact ⟨0, by omega, rfl, Row.new' _ _ _ _ _ rfl (by rw [made_rep]; simp [lowTo, low]), below_box _ _⟩
  case round =>
    obtain ⟨k, hk, rfl, R, hb⟩ := hrel
    by_cases hlt : k < S
    · have q0 : 0 ≤ (S : Int) - 1 - (k : Int) := by omega
      have q1 : (S : Int) - 1 - (k : Int) < (S : Int) := by omega
      have q2 : ((S : Int) - 1 - (k : Int)).toNat = S - 1 - k := by omega
      have q3 : 0 ≤ 8 * (k : Int) := by omega
      have hln := lowTo_len n S k hk
      obtain ⟨cv, cc, cf⟩ : ∃ cv : Int, wr.cell? ⟨w.heap.size, S - 1 - k, none⟩ = some (.int .u8 cv) ∧ wr.frozen? ⟨w.heap.size, S - 1 - k, none⟩ = false := by
        refine ⟨_, R (S - 1 - k) (.int .u8 (((lowTo n S k)[S - 1 - k]'(by omega)).toNat : Int)) (by rw [bc, List.getElem?_map, List.getElem?_eq_getElem (by omega)]; rfl)⟩
      have HR := Hid.mk R
      clear R hln
      go_wp2
      go_roundw
      case rel =>
        refine ⟨k + 1, by omega, by go_num, (HR.out.set _ _).to ?_, hb.setCell (Nat.le_refl _) _⟩
        rw [← lowTo_set n S k hlt, bc, bc, List.map_set]
        congr 2
      case measure => simp [intOf]; omega
    · have hke : k = S := by omega
      rw [hke] at R
      clear hke
      have hle : lowTo n S S = low n S := by simp [lowTo]
      rw [hle] at R
      have hcv := to_string wr w.heap.size (low n S) S R
      rw [low_len] at hcv
      clear R hle
      go_wp2
      go_ret
      exact ⟨rfl, hb⟩
end Go.Proofs.YtemcpjflpggaeaaDoor
