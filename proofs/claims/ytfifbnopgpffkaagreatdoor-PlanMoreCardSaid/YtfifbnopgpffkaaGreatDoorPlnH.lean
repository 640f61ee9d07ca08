import Derived.Test.YtfifbnopgpffkaaGreatDoorPlnG
import Derived.Test.YtfifbnopgpffkaaGreatDoorShelfP
import Derived.Lib.OwnBridge
set_option linter.unusedSimpArgs false
set_option linter.unusedVariables false
namespace Go.Proofs.YtfifbnopgpffkaaGreatDoor.Pl
open Go.RowKit
open Fw (By FJob Flw ba)

theorem intCells_enc (l : List Nat) : intCells l = (l.map fun (k : Nat) => (k : Int)).map (Value.int .i64) := by simp [intCells]
theorem IntsV.of {w : World} {B : Nat} {v : Value} {l : List Nat} (h : w.ownsRow B 3 1 v l.length (intCells l)) : IntsV w v l := by
  have h0 := h
  obtain ⟨-, ⟨rfl, hn⟩ | ⟨g, cap, cur, rfl, hg, hh, hn, hm, -, -⟩⟩ := h
  · exact Or.inl ⟨rfl, List.length_eq_zero_iff.1 hn⟩
  · refine Or.inr ⟨g, 0, cap, rfl, hn, (h0.lt g rfl).2, fun j hj => ?_⟩
    rw [Nat.zero_add, h0.cellAt j (by omega)]
    simp [intCells, List.getElem?_eq_getElem hj]
theorem put_grown {w : World} {g q : Nat} {d : Array Int} : w.grownBy (Sort.putRow (Value.int .i64) (Sort.ahead w q) g 0 d) (some g) :=
  ⟨rfl, rfl, rfl, by simp [Sort.putRow, Sort.mapBlock, Sort.ahead], fun k hk hne => by
    simp [Sort.putRow, Sort.mapBlock, Sort.ahead, Array.getElem?_modify, show g ≠ k by rintro rfl; exact hne rfl]⟩
theorem del_any (B i : Nat) (lv : Value) (left : List Nat) (w : World) (hi : i < left.length) (h16 : left.length ≤ 1000) (h : w.ownsRow B 3 1 lv left.length (intCells left)) :
    Calls Tryz.prog 25 #[lv, .int .i64 (i : Nat), .int .i64 ((i : Int) + 1)] w fun e w' => ∃ lv', e = .returned lv' ∧ w'.ownsRow B 3 1 lv' (left.eraseIdx i).length (intCells (left.eraseIdx i)) ∧ lv'.ownBlock = lv.ownBlock ∧ w.grownBy w' lv.ownBlock := by
  rw [show ((i : Int) + 1) = ((i + 1 : Nat) : Int) by omega]
  rw [intCells_enc] at h
  obtain ⟨g, cap, rfl, hB, hg, hn, hm, hl, hH⟩ := Lib.holds_of_ownsRow h (by
    intro e
    obtain ⟨-, ⟨-, hn⟩ | ⟨g, cap, cur, e2, -⟩⟩ := h
    · omega
    · rw [e2] at e; cases e)
  have hD := Tryz.slices_Delete_int g 0 cap i (i + 1) (left.map fun (k : Nat) => (k : Int)) w hH (by rw [hl]; exact hn) (by unfold maxLen at hm; omega) (by omega) (by rw [hl]; omega)
  rw [hl] at hD
  refine hD.mono ?_
  rintro e w' ⟨rfl, q, rfl⟩
  have hlen : ((left.map fun (k : Nat) => (k : Int)).take i ++ (left.map fun (k : Nat) => (k : Int)).drop (i + 1) ++ List.replicate (i + 1 - i) (0 : Int)).length = left.length := by simp; omega
  have ho := Lib.ownsRow_putRow (q := q) (k := left.length - 1) h hlen (by omega)
  have he : (((left.map fun (k : Nat) => (k : Int)).take i ++ (left.map fun (k : Nat) => (k : Int)).drop (i + 1) ++ List.replicate (i + 1 - i) (0 : Int)).take (left.length - 1)).map (Value.int .i64) = intCells (left.eraseIdx i) := by
    rw [List.take_left' (by simp; omega), intCells_enc, List.eraseIdx_eq_take_drop_succ]
    simp
  rw [he] at ho
  refine ⟨_, rfl, ?_, rfl, put_grown⟩
  rw [List.length_eraseIdx_of_lt hi, show left.length - (i + 1 - i) = left.length - 1 by omega]
  exact ho
set_option maxHeartbeats 800000 in
theorem order1_any (f : Flw) (vi vj vo v : Value) (l : List Nat) (F T k : Nat) (w : World) (h : Fw.FlowRd w f vi vj vo) (hf : Fw.FlwOK f) (hF : FBox w F vi vj vo) (hT : w.cell? ⟨T, 0, none⟩ = some v) (hk : k < f.jobs.length) (hl : IntsV w v l) (hlt : ∀ k ∈ l, k < f.jobs.length) (h16 : l.length ≤ 100) :
    Calls Tryz.prog 23 #[.int .i64 (k : Nat), .pointer (some ⟨F, 0, none⟩), .pointer (some ⟨T, 0, none⟩)] w fun e w' => e = .returned (.bool (rdyB f k l)) ∧ Below w.heap.size w w' := by
  have HR := Hid.mk (ready_any f vi vj vo v l k w h hf hk hl hlt h16)
  have g1 := hF.1
  have g2 := hF.2.1
  have g3 := hF.2.2
  obtain ⟨ja, jc, rfl⟩ := row_slice h.jobs
  obtain ⟨ia, ic, rfl⟩ := row_slice h.ins
  obtain ⟨oa, oc, rfl⟩ := row_slice h.outs
  obtain ⟨va, vc, rfl⟩ := ints_slice hl
  clear h hf hF hl hlt
  go_enter Tryz.func23, Tryz.ntmps23
  go_wp2_with (first | (go_at_call 15; refine HR.out.mono ?_; rintro e w2 ⟨rfl, hb2⟩))
  go_ret
  exact ⟨rfl, hb2⟩
theorem find_hit {p : Nat → Bool} {l : List Nat} {k : Nat} (h : k < l.length) (ht : (l.take k).any p = false) (hp : p l[k] = true) : l.findIdx? p = some k := by
  rw [List.findIdx?_eq_some_iff_getElem]
  refine ⟨h, hp, fun j hj => ?_⟩
  have := List.any_eq_false.1 ht l[j] (by
    rw [List.mem_iff_getElem]
    exact ⟨j, by simp; omega, by simp⟩)
  exact this
theorem find_miss {p : Nat → Bool} {l : List Nat} (ht : l.any p = false) : l.findIdx? p = none := by
  rw [List.findIdx?_eq_none_iff]
  intro x hx
  simpa using List.any_eq_false.1 ht x hx
set_option maxRecDepth 100000 in
set_option maxHeartbeats 1600000 in
theorem idx_order (f : Flw) (vi vj vo v lv : Value) (l left : List Nat) (F T : Nat) (w : World) (h : Fw.FlowRd w f vi vj vo) (hf : Fw.FlwOK f) (hF : FBox w F vi vj vo) (hT : w.cell? ⟨T, 0, none⟩ = some v) (hl : IntsV w v l) (hlt : ∀ k ∈ l, k < f.jobs.length) (h16 : l.length ≤ 100) (hL : IntsV w lv left) (hLt : ∀ k ∈ left, k < f.jobs.length) (hL16 : left.length ≤ 100) :
    Calls Tryz.prog 22 #[lv, .func (.func 23) #[] #[.pointer (some ⟨F, 0, none⟩), .pointer (some ⟨T, 0, none⟩)]] w fun e w' => ∃ r : Int, e = .returned (.int .i64 r) ∧ ((∃ i : Nat, r = (i : Int) ∧ (left.findIdx? fun k => rdyB f k l) = some i) ∨ (r = -1 ∧ (left.findIdx? fun k => rdyB f k l) = none)) ∧ Below w.heap.size w w' := by
  obtain ⟨ia, ic, rfl⟩ := ints_slice hL
  obtain ⟨n, hn⟩ : ∃ n, left.length = n := ⟨_, rfl⟩
  have HN := Hid.mk hn
  have HL := Hid.mk hL
  have HQ : Hid (∀ V, Below w.heap.size w V → ∀ k, k < f.jobs.length → Calls Tryz.prog 23 #[.int .i64 (k : Nat), .pointer (some ⟨F, 0, none⟩), .pointer (some ⟨T, 0, none⟩)] V fun e w' => e = .returned (.bool (rdyB f k l)) ∧ Below V.heap.size V w') := Hid.mk fun V hV k hk => order1_any f vi vj vo v l F T k V (h.below hV) hf (hF.below hV) (cell_below hT hV) hk (hl.below hV) hlt h16
  have HLT := Hid.mk hLt
  rw [hn] at hL16 ⊢
  clear hn h hF hT hl hf hlt hL hLt
  go_enter Tryz.func22, Tryz.ntmps22
  go_wp2
  go_loopw [8] (fun i wr => ∃ k : Nat, k ≤ n ∧ i = .int .i64 k ∧ (left.take k).any (fun k => rdyB f k l) = false ∧ Below w.heap.size w wr) (fun i _ => n - (intOf i).toNat)
  case atStart => exact ⟨0, Nat.zero_le _, rfl, rfl, Below.refl _ _⟩
  case round =>
    obtain ⟨k, hk, rfl, hal, hnx⟩ := hrel
    have HA := Hid.mk hal
    clear hal
    by_cases hlt : k < n
    · have hk2 : k < left.length := by have := HN.out; omega
      rcases HL.out with ⟨-, e0⟩ | ⟨b, o, c', e0, hcap, hb, hcell⟩
      · rw [e0] at hk2; exact absurd hk2 (by simp)
      simp only [Value.slice.injEq] at e0
      obtain ⟨rfl, -, rfl⟩ := e0
      have e1 := (hnx.cell (p := ⟨b, o + k, none⟩) hb).trans (hcell k hk2)
      have HC := Hid.mk (HQ.out wr hnx left[k] (HLT.out _ (List.getElem_mem hk2)))
      have HNX := Hid.mk hnx
      clear hnx hcell
      cases hp : rdyB f left[k] l
      all_goals have HP := Hid.mk hp
      all_goals rw [hp] at HC
      all_goals clear hp
      · go_wp2_with (go_at_call 23; refine HC.out.mono ?_; rintro e w2 ⟨rfl, hb2⟩; have HB2 := Hid.mk (HNX.out.trans (hb2.mono HNX.out.size)); clear hb2)
        go_roundw
        case rel => exact ⟨k + 1, by omega, by go_num, any_step hk2 HA.out HP.out, HB2.out⟩
        case measure => simp [intOf]; omega
      · go_wp2_with (go_at_call 23; refine HC.out.mono ?_; rintro e w2 ⟨rfl, hb2⟩; have HB2 := Hid.mk (HNX.out.trans (hb2.mono HNX.out.size)); clear hb2)
        go_ret
        exact ⟨k, rfl, Or.inl ⟨k, rfl, find_hit hk2 HA.out HP.out⟩, HB2.out⟩
    · go_wp2
      go_ret
      exact ⟨-1, rfl, Or.inr ⟨rfl, find_miss (by have := HA.out; rwa [List.take_of_length_le (by have := HN.out; omega)] at this)⟩, hnx⟩
end Go.Proofs.YtfifbnopgpffkaaGreatDoor.Pl
