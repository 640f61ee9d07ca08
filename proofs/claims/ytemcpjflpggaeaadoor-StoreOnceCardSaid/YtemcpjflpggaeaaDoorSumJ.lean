import Derived.Test.YtemcpjflpggaeaaDoorSumI
import Derived.Deep.DeepCutAuto
set_option linter.unusedSimpArgs false
set_option linter.unusedVariables false
namespace Go.Proofs.YtemcpjflpggaeaaDoor
open Go.RowKit

theorem lastL_len (r : List UInt8) (n : Nat) : (lastL r n).length = r.length + 1 + (119 - r.length) % 64 + 8 := by simp [lastL, be8]; omega
theorem bytes4_take (l : List (BitVec 32)) (j : Nat) (h : j < l.length) : (l.take (j + 1)).flatMap bytes4 = (l.take j).flatMap bytes4 ++ bytes4 (l[j]?.getD 0) := by
  rw [List.take_succ_eq_append_getElem h, List.flatMap_append, List.getElem?_eq_getElem h]; simp
theorem bytes4_len (l : List (BitVec 32)) : (l.flatMap bytes4).length = 4 * l.length := by
  induction l with
  | nil => rfl
  | cons a r ih => rw [List.flatMap_cons, List.length_append, ih]; simp [bytes4]; omega

set_option maxRecDepth 100000 in
set_option maxHeartbeats 1600000 in
theorem sum_any (s : ByteArray) (w : World) (hs : s.size ≤ 400) (hE : EnvK w) :
    Calls Tryd.prog 28 #[.string s] w fun e w' => e = .returned (.string ⟨(sumL s.data.toList).toArray⟩) ∧ Below w.heap.size w w' := by
  obtain ⟨m, hm⟩ : ∃ m, s.size / 64 = m := ⟨_, rfl⟩
  have hq : (s.size : Int).tdiv 64 = m := by rw [Int.tdiv_eq_ediv_of_nonneg (by omega)]; omega
  have q1 : 64 * m ≤ s.size := by omega
  have q2 : s.size - 64 * m < 64 := by omega
  have HE := Hid.mk hE
  have HM := Hid.mk hm
  clear hm hE
  obtain ⟨q0, hq0⟩ : ∃ x, start = x := ⟨_, rfl⟩
  obtain ⟨qa, hqa⟩ : ∃ x, mixN q0 (s.data.toList.take (64 * m)) m = x := ⟨_, rfl⟩
  obtain ⟨qb, hqb⟩ : ∃ x, mixN qa (lastL (s.data.toList.drop (64 * m)) s.size) ((lastL (s.data.toList.drop (64 * m)) s.size).length / 64) = x := ⟨_, rfl⟩
  have hlen : s.data.toList.length = s.size := by simp
  have hsum : sumL s.data.toList = qb.list.flatMap bytes4 := by
    have := sumL_cut s.data.toList
    rw [hlen, HM.out, hq0, hqa, hqb] at this
    exact this
  rw [hsum]
  go_enter Tryd.func28, Tryd.ntmps28
  go_wp2
  refine any_world (G := fun w => Code.wp _ _ _ _ w) (fun w4 => Row w4 w.heap.size (cellsU q0.list) ∧ Below w.heap.size w w4) _ ⟨Row.new' _ _ _ _ _ rfl (by rw [← hq0]; rfl), below_box _ _⟩ ?_
  intro w4 ⟨R0, hb4⟩
  have hm1 : ∀ w5, Below w.heap.size w w5 → Calls Tryd.prog 59 #[.agg #[.int .u32 (U q0.a), .int .u32 (U q0.b), .int .u32 (U q0.c), .int .u32 (U q0.d), .int .u32 (U q0.e), .int .u32 (U q0.f), .int .u32 (U q0.g), .int .u32 (U q0.h)], .string (s.extract 0 (64 * m))] w5 fun e w' => e = .returned (.agg #[.int .u32 (U qa.a), .int .u32 (U qa.b), .int .u32 (U qa.c), .int .u32 (U qa.d), .int .u32 (U qa.e), .int .u32 (U qa.f), .int .u32 (U qa.g), .int .u32 (U qa.h)]) ∧ Below w5.heap.size w5 w' := fun w5 h5 => by
    refine (mixAll_any q0 (s.extract 0 (64 * m)) m w5 (by simp; omega) (by omega) (HE.out.below h5)).mono ?_
    rintro e w' ⟨rfl, hb'⟩
    rw [extract_list, List.drop_zero, Nat.sub_zero, hqa]
    exact ⟨rfl, hb'⟩
  have hl1 : ∀ w5, Calls Tryd.prog 60 #[.string (s.extract (64 * m) s.size), .int .i64 s.size] w5 fun e w' => e = .returned (.string ⟨(lastL (s.data.toList.drop (64 * m)) s.size).toArray⟩) ∧ Below w5.heap.size w5 w' := fun w5 => by
    refine (last_any (s.extract (64 * m) s.size) s.size w5 (by simp; omega) (by omega)).mono ?_
    rintro e w' ⟨rfl, hb'⟩
    rw [extract_list, List.take_of_length_le (by rw [List.length_drop, hlen]; omega)]
    exact ⟨rfl, hb'⟩
  have hm2 : ∀ w5, Below w.heap.size w w5 → Calls Tryd.prog 59 #[.agg #[.int .u32 (U qa.a), .int .u32 (U qa.b), .int .u32 (U qa.c), .int .u32 (U qa.d), .int .u32 (U qa.e), .int .u32 (U qa.f), .int .u32 (U qa.g), .int .u32 (U qa.h)], .string ⟨(lastL (s.data.toList.drop (64 * m)) s.size).toArray⟩] w5 fun e w' => e = .returned (.agg #[.int .u32 (U qb.a), .int .u32 (U qb.b), .int .u32 (U qb.c), .int .u32 (U qb.d), .int .u32 (U qb.e), .int .u32 (U qb.f), .int .u32 (U qb.g), .int .u32 (U qb.h)]) ∧ Below w5.heap.size w5 w' := fun w5 h5 => by
    have hll := lastL_len (s.data.toList.drop (64 * m)) s.size
    rw [List.length_drop, hlen] at hll
    refine (mixAll_any qa _ ((lastL (s.data.toList.drop (64 * m)) s.size).length / 64) w5 (by show (lastL (s.data.toList.drop (64 * m)) s.size).toArray.size = _; rw [List.size_toArray]; omega) (by omega) (HE.out.below h5)).mono ?_
    rintro e w' ⟨rfl, hb'⟩
    simp only []
    rw [hqb]
    exact ⟨rfl, hb'⟩
  have HM1 := Hid.mk hm1
  have HL1 := Hid.mk hl1
  have HM2 := Hid.mk hm2
  have n1 : ((m : Int) * 64).toNat = 64 * m := by omega
  have n2 : 0 ≤ (m : Int) * 64 := by omega
  have n3 : (m : Int) * 64 ≤ (s.size : Int) := by omega
  obtain ⟨⟨c0, c1, c2, c3, c4, c5, c6, c7⟩, -⟩ := R0.eight
  have HR := Hid.mk R0
  have HB4 := Hid.mk hb4
  clear hm1 hl1 hm2 hq0 hqa hqb hsum hlen R0 hb4
  generalize hlb : (lastL (s.data.toList.drop (64 * m)) s.size) = lb at *
  clear hlb
  go_cut [] (fun wx => Row wx w.heap.size (cellsU qa.list) ∧ Below w.heap.size w wx)
  case first =>
    go_region_with (go_at_call 59; refine (HM1.out _ (HB4.out.drew)).mono ?_; rintro e w5 ⟨rfl, hb5⟩; obtain ⟨⟨d0, d1, d2, d3, d4, d5, d6, d7⟩, ⟨f0, f1, f2, f3, f4, f5, f6, f7⟩⟩ := (Row.below (HR.out.drew) hb5 (HR.out.lt (show 0 < 8 by decide))).eight)
    all_goals
      have hbw : Below w.heap.size w w5 := bel_then (HB4.out.drew) hb5
      have RR := Row.below (HR.out.drew) hb5 (HR.out.lt (show 0 < 8 by decide))
      clear d0 d1 d2 d3 d4 d5 d6 d7 f0 f1 f2 f3 f4 f5 f6 f7 c0 c1 c2 c3 c4 c5 c6 c7 hb5
      go_wp2_with fail
      go_meet
      exact ⟨Row.to ((((((((RR.set 0 _).set 1 _).set 2 _).set 3 _).set 4 _).set 5 _).set 6 _).set 7 _) rfl, ((((((((hbw.setCell (Nat.le_refl _) _).setCell (Nat.le_refl _) _).setCell (Nat.le_refl _) _).setCell (Nat.le_refl _) _).setCell (Nat.le_refl _) _).setCell (Nat.le_refl _) _).setCell (Nat.le_refl _) _).setCell (Nat.le_refl _) _)⟩
  case rest =>
    obtain ⟨R1, hb1⟩ := hcut
    obtain ⟨⟨g0, g1, g2, g3, g4, g5, g6, g7⟩, -⟩ := R1.eight
    have HR1 := Hid.mk R1
    have HB1 := Hid.mk hb1
    clear c0 c1 c2 c3 c4 c5 c6 c7 HR HB4 R1 hb1 HM1
    go_wp2
    go_cut [] (fun wx => Row wx w.heap.size (cellsU qb.list) ∧ Below w.heap.size w wx)
    case first =>
      go_region_with (first
        | (go_at_call 60; refine (HL1.out _).mono ?_; rintro e w5 ⟨rfl, hb5⟩; obtain ⟨⟨k0, k1, k2, k3, k4, k5, k6, k7⟩, -⟩ := (Row.below (HR1.out.drew) hb5 (HR1.out.lt (show 0 < 8 by decide))).eight)
        | (go_at_call 59; refine (HM2.out _ (bel_then (HB1.out.drew) hb5)).mono ?_; rintro e w6 ⟨rfl, hb6⟩; obtain ⟨⟨d0, d1, d2, d3, d4, d5, d6, d7⟩, ⟨f0, f1, f2, f3, f4, f5, f6, f7⟩⟩ := (Row.below (Row.below (HR1.out.drew) hb5 (HR1.out.lt (show 0 < 8 by decide))) hb6 (Nat.lt_of_lt_of_le (HR1.out.lt (show 0 < 8 by decide)) hb5.size)).eight))
      all_goals
        have hbw : Below w.heap.size w w6 := bel_then (bel_then (HB1.out.drew) hb5) hb6
        have RR := Row.below (Row.below (HR1.out.drew) hb5 (HR1.out.lt (show 0 < 8 by decide))) hb6 (Nat.lt_of_lt_of_le (HR1.out.lt (show 0 < 8 by decide)) hb5.size)
        clear d0 d1 d2 d3 d4 d5 d6 d7 f0 f1 f2 f3 f4 f5 f6 f7 k0 k1 k2 k3 k4 k5 k6 k7 g0 g1 g2 g3 g4 g5 g6 g7 hb5 hb6
        go_wp2_with fail
        go_meet
        exact ⟨Row.to ((((((((RR.set 0 _).set 1 _).set 2 _).set 3 _).set 4 _).set 5 _).set 6 _).set 7 _) rfl, ((((((((hbw.setCell (Nat.le_refl _) _).setCell (Nat.le_refl _) _).setCell (Nat.le_refl _) _).setCell (Nat.le_refl _) _).setCell (Nat.le_refl _) _).setCell (Nat.le_refl _) _).setCell (Nat.le_refl _) _).setCell (Nat.le_refl _) _)⟩
    case rest =>
      obtain ⟨wd, rfl⟩ : ∃ x, x = wc := ⟨_, rfl⟩
      obtain ⟨R2, hb2⟩ := hcut
      have HR2 := Hid.mk R2
      have HB2 := Hid.mk hb2
      have hlt2 := R2.lt (show 0 < 8 by decide)
      clear g0 g1 g2 g3 g4 g5 g6 g7 HR1 HB1 HL1 HM2 R2 hb2
      go_wp2_with (refine wpList_load_mid rfl 97 (.tmp 3) rfl w.heap.size 0 rfl (cellsU qb.list) _ ((HR2.out.alloc _).range) Tryd.underlying97 rfl info8 ?_)
      go_loopw [27] (fun i wr => ∃ j : Nat, j ≤ 8 ∧ i = .int .i64 j ∧ Lib.IsBuilder 68 5 wd.heap.size wd.heap.size (Lib.byteCells ((qb.list.take j).flatMap bytes4)) wr ∧ Below wd.heap.size wd wr) (fun i _ => 8 - (intOf i).toNat)
      case atStart => exact ⟨0, by omega, rfl, builder_new wd, below_box _ _⟩
      case round =>
        obtain ⟨j, hj, rfl, hBu, hnx⟩ := hrel
        have hbl := builder_lt hBu
        have HBU := Hid.mk hBu
        have HNX := Hid.mk hnx
        clear hBu hnx
        by_cases hjt : j < 8
        · have hix : ∀ w, (Instr.index 97 (.agg (cellsU qb.list).toArray) (.int .i64 j)).run Tryd.prog w = .ok (.int .u32 (U (qb.list[j]?.getD 0))) w := fun w => index_row 97 96 8 (stA qb) j _ w Tryd.underlying97 Tryd.sizeOf96 Tryd.isAgg96 hjt (stA_get qb j hjt)
          obtain ⟨z, hz⟩ : ∃ x, qb.list[j]?.getD 0 = x := ⟨_, rfl⟩
          rw [hz] at hix
          have HZ := Hid.mk hz
          clear hz
          have hBE : ∀ w, Calls Tryd.prog 61 #[.int .u64 (U z), .int .i64 4] w fun e w' => e = .returned (.string ⟨(bytes4 z).toArray⟩) ∧ Below w.heap.size w w' := fun w => by
            have := big_any z.toNat 4 w (by have := z.isLt; omega) (by omega)
            rw [low4] at this
            exact this
          have HBE := Hid.mk hBE
          clear hBE
          have hwr : U z % 18446744073709551616 = U z := by have := U_lo z; have := U_hi z; omega
          go_wp2_with (go_at_call 61; refine (HBE.out _).mono ?_; rintro e w5 ⟨rfl, hb5⟩)
          have hs5 := hb5.size
          have hWR := Tryd.Builder_WriteString wd.heap.size wd.heap.size (Lib.byteCells ((qb.list.take j).flatMap bytes4)) ⟨(bytes4 z).toArray⟩ w5 (builder_below HBU.out hb5) (by rw [Lib.byteCells_length, bytes4_len, List.length_take]; show _ + (bytes4 z).toArray.size ≤ _; simp [bytes4]; omega) (by omega)
          refine hWR.mono ?_
          rintro e w6 ⟨rfl, hB6, hb6⟩
          have hB6' : Lib.IsBuilder 68 5 wd.heap.size wd.heap.size (Lib.byteCells ((qb.list.take (j + 1)).flatMap bytes4)) w6 := by
            rw [bytes4_take qb.list j hjt, HZ.out, Lib.byteCells_append]; exact Or.inr hB6
          have HB6 := Hid.mk hB6'
          have hbl6 : Below wd.heap.size wd w6 := (HNX.out.trans (hb5.mono (by omega))).trans hb6
          clear hB6 hB6' hWR hix
          go_wp2
          go_roundw
          case rel => exact ⟨j + 1, by omega, by go_num, HB6.out, hbl6⟩
          case measure => simp [intOf]; omega
        · have hje : j = 8 := by omega
          have hB := HBU.out
          rw [hje, List.take_of_length_le (show qb.list.length ≤ 8 from Nat.le_refl _)] at hB
          have HST := Hid.mk (Tryd.Builder_String_any wd.heap.size wd.heap.size (qb.list.flatMap bytes4) wr hB (by omega))
          clear hB hje
          go_wp2_with (go_at_call 39; refine HST.out.mono ?_; rintro e w5 ⟨rfl, hb5⟩)
          go_ret
          exact ⟨rfl, HB2.out.trans (((HNX.out.mono (Nat.le_refl _)).trans hb5).mono HB2.out.size)⟩
end Go.Proofs.YtemcpjflpggaeaaDoor
