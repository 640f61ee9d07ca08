import Derived.Test.YtnpjdloagoaanaaDoorSumO
import Derived.Deep.RegionHeld3
import Derived.Lib.ConvBytes
import Derived.Lib.AtoiErrMem
import Derived.Lib.SmallJoins
set_option linter.unusedSimpArgs false
set_option linter.unusedVariables false
namespace Go.Proofs.YtnpjdloagoaanaaDoor
open Go.RowKit

def lenS : Value → Nat
  | .string b => b.size
  | _ => 0
/-- The first so many of eight words, the others 0. -/
def h8 (k : Nat) : List (BitVec 32) := start.list.take k ++ List.replicate (8 - k) 0
theorem h8_set : ∀ k, k < 8 → (h8 k).set k (start.list[k]?.getD 0) = h8 (k + 1)
  | 0, _ => rfl
  | 1, _ => rfl
  | 2, _ => rfl
  | 3, _ => rfl
  | 4, _ => rfl
  | 5, _ => rfl
  | 6, _ => rfl
  | 7, _ => rfl
  | k + 8, h => absurd h (by omega)
theorem h8_len (k : Nat) : (h8 k).length = 8 := by
  have : start.list.length = 8 := rfl
  simp [h8, this]; omega
theorem h8_past (k : Nat) (h : 8 ≤ k) : h8 k = start.list := by
  have : start.list.length = 8 := rfl
  rw [h8, List.take_of_length_le (by omega), show 8 - k = 0 by omega]; simp
theorem kfull_set (k : Nat) (h : k < 64) : (full (kList.take k)).set k (kList[k]?.getD 0) = full (kList.take (k + 1)) := by
  have hl : (kList.take k).length = k := by rw [List.length_take]; have : kList.length = 64 := rfl; omega
  have := full_set (kList.take k) (kList[k]?.getD 0) (by omega)
  rw [hl] at this
  rw [this, List.take_succ_eq_append_getElem (show k < kList.length from h), List.getElem?_eq_getElem (show k < kList.length from h)]; rfl
theorem kfull_len (k : Nat) : (full (kList.take k)).length = 64 := full_len (by rw [List.length_take]; have : kList.length = 64 := rfl; omega)
theorem root3_any (k : Nat) (hk : k < 64) (w : World) : Calls Tryd.prog 23 #[.int .u64 ((pList[k]?.getD 0 : Nat) : Int), .int .i64 3] w fun e w' => e = .returned (.int .u32 (U (kList[k]?.getD 0))) ∧ Below w.heap.size w w' := by
  have h := r3_is k hk
  have hp : pList[k]?.getD 0 < 65536 := by
    rw [List.getElem?_eq_getElem (show k < pList.length from hk)]
    have := pList_lt _ (List.getElem_mem (show k < pList.length from hk))
    simp; omega
  have := root_any (pList[k]?.getD 0) 3 (r3 k) w (Or.inr rfl) hp h.1 h.2
  rw [r3_mod] at this
  exact this
theorem root2_any (k : Nat) (hk : k < 8) (w : World) : Calls Tryd.prog 23 #[.int .u64 ((pList[k]?.getD 0 : Nat) : Int), .int .i64 2] w fun e w' => e = .returned (.int .u32 (U (start.list[k]?.getD 0))) ∧ Below w.heap.size w w' := by
  have h := r2_is k hk
  have hp : pList[k]?.getD 0 < 65536 := by
    rw [List.getElem?_eq_getElem (show k < pList.length from Nat.lt_trans hk (by decide))]
    have := pList_lt _ (List.getElem_mem (show k < pList.length from Nat.lt_trans hk (by decide)))
    simp; omega
  have := root_any (pList[k]?.getD 0) 2 (r2 k) w (Or.inl rfl) hp h.1 h.2
  rw [r2_mod] at this
  exact this

theorem be8_at (n : Nat) : ∀ t : Nat, t < 8 → ∃ b : UInt8, (be8 n)[t]? = some b ∧ (n : Int) / 2 ^ min ((56 : Int) - 8 * (t : Int)).toNat 64 % 256 = (b.toNat : Int)
  | 0, _ => ⟨_, rfl, by rw [← byte_val]; show (n : Int) / 72057594037927936 % 256 = _; omega⟩
  | 1, _ => ⟨_, rfl, by rw [← byte_val]; show (n : Int) / 281474976710656 % 256 = _; omega⟩
  | 2, _ => ⟨_, rfl, by rw [← byte_val]; show (n : Int) / 1099511627776 % 256 = _; omega⟩
  | 3, _ => ⟨_, rfl, by rw [← byte_val]; show (n : Int) / 4294967296 % 256 = _; omega⟩
  | 4, _ => ⟨_, rfl, by rw [← byte_val]; show (n : Int) / 16777216 % 256 = _; omega⟩
  | 5, _ => ⟨_, rfl, by rw [← byte_val]; show (n : Int) / 65536 % 256 = _; omega⟩
  | 6, _ => ⟨_, rfl, by rw [← byte_val]; show (n : Int) / 256 % 256 = _; omega⟩
  | 7, _ => ⟨_, rfl, by rw [← byte_val]; show (n : Int) / 1 % 256 = _; omega⟩
  | t + 8, h => absurd h (by omega)
theorem one_string (w : World) (b : UInt8) : (convert 48 9 (.slice (some ⟨w.heap.size, 0, none⟩) 1 1)).run Tryd.prog (w.alloc (.cells #[.int .u8 (b.toNat : Int)] 5)) = .ok (.string ⟨#[b]⟩) (w.alloc (.cells #[.int .u8 (b.toNat : Int)] 5)) :=
  to_string _ w.heap.size [b] 1 (Row.new' _ _ _ _ _ rfl rfl)
theorem four_string (w : World) (b0 b1 b2 b3 : UInt8) : (convert 48 9 (.slice (some ⟨w.heap.size, 0, none⟩) 4 4)).run Tryd.prog (w.alloc (.cells #[.int .u8 (b0.toNat : Int), .int .u8 (b1.toNat : Int), .int .u8 (b2.toNat : Int), .int .u8 (b3.toNat : Int)] 5)) = .ok (.string ⟨#[b0, b1, b2, b3]⟩) (w.alloc (.cells #[.int .u8 (b0.toNat : Int), .int .u8 (b1.toNat : Int), .int .u8 (b2.toNat : Int), .int .u8 (b3.toNat : Int)] 5)) :=
  to_string _ w.heap.size [b0, b1, b2, b3] 4 (Row.new' _ _ _ _ _ rfl rfl)
theorem four_of (z : BitVec 32) : ∃ b0 b1 b2 b3 : UInt8, bytes4 z = [b0, b1, b2, b3] ∧ U z / 16777216 % 256 = (b0.toNat : Int) ∧ U z / 65536 % 256 = (b1.toNat : Int) ∧ U z / 256 % 256 = (b2.toNat : Int) ∧ U z % 256 = (b3.toNat : Int) := by
  refine ⟨_, _, _, _, rfl, ?_, ?_, ?_, ?_⟩
  all_goals rw [← byte_val]
  all_goals simp only [U]
  all_goals omega
def stepW (a : BitVec 32) (b : UInt8) : BitVec 32 := BitVec.ofNat 32 (a.toNat * 256 + b.toNat)
theorem U_stepW (a : BitVec 32) (b : UInt8) : U (stepW a b) = (U a * 256 + b.toNat) % 4294967296 := by
  simp only [U, stepW, BitVec.toNat_ofNat]; omega
def acc (l : List UInt8) (j : Nat) : BitVec 32 := (l.take j).foldl stepW 0
theorem acc_succ (l : List UInt8) (j : Nat) (h : j < l.length) : acc l (j + 1) = stepW (acc l j) l[j] := by
  rw [acc, List.take_succ_eq_append_getElem h, List.foldl_append]; rfl
theorem acc_four (b0 b1 b2 b3 : UInt8) : acc [b0, b1, b2, b3] 4 = be4 b0 b1 b2 b3 := by
  have h0 := b0.toNat_lt; have h1 := b1.toNat_lt; have h2 := b2.toNat_lt; have h3 := b3.toNat_lt
  apply U_inj
  show U (stepW (stepW (stepW (stepW 0 b0) b1) b2) b3) = _
  rw [U_stepW, U_stepW, U_stepW, U_stepW, be4_U]
  have : U 0 = 0 := rfl
  rw [this]; omega
theorem full_set0 (l : List (BitVec 32)) (h : l.length < 64) : (full l).set l.length 0 = full l := by
  rw [full_set l 0 h, full, full, List.append_assoc]
  congr 1
  rw [List.length_append, List.length_singleton]
  obtain ⟨m, hm⟩ : ∃ m, 64 - l.length = m + 1 := ⟨63 - l.length, by omega⟩
  rw [hm, show 64 - (l.length + 1) = m by omega, List.replicate_succ]; rfl
theorem acc_next (yd : List UInt8) (t : Nat) (ht : t < 16) (hy : 64 ≤ yd.length) : acc ((yd.drop (4 * t)).take 4) 4 = next (yd.take 64) (sched (yd.take 64) t) t := by
  rw [next, if_pos ht]
  have g : ∀ j (hj : j < 4), (yd.take 64)[4 * t + j]?.getD 0 = yd[4 * t + j]'(by omega) := fun j hj => by
    rw [List.getElem?_take_of_lt (by omega), List.getElem?_eq_getElem (by omega)]; rfl
  have g0 : (yd.take 64)[4 * t]?.getD 0 = yd[4 * t]'(by omega) := g 0 (by omega)
  rw [g0, g 1 (by omega), g 2 (by omega), g 3 (by omega), ← acc_four]
  congr 1
  rw [List.drop_eq_getElem_cons (by omega), List.drop_eq_getElem_cons (by omega), List.drop_eq_getElem_cons (by omega), List.drop_eq_getElem_cons (by omega)]
  rfl
theorem acc_store {blk zl : List UInt8} {t : Nat} (ht : t < 64) (h : acc zl 4 = next blk (sched blk t) t) : (full (sched blk t)).set t (acc zl 4) = full (sched blk (t + 1)) := by
  have := full_set (sched blk t) (next blk (sched blk t) t) (by rw [sched_length]; exact ht)
  rw [sched_length] at this
  rw [h, this]; rfl

def pickR (q : Int) (a b : BitVec 32) : BitVec 32 := if q = 3 then a else b
theorem pickR_3 (a b : BitVec 32) : pickR 3 a b = a := rfl
theorem pickR_2 (a b : BitVec 32) : pickR 2 a b = b := rfl

set_option maxRecDepth 100000 in
set_option maxHeartbeats 8000000 in
theorem refSum_any (s : ByteArray) (w : World) (hs : s.size ≤ 400) :
    Calls Tryd.prog 10 #[.string s] w fun e w' => e = .returned (.string ⟨(sumL s.data.toList).toArray⟩) ∧ Below w.heap.size w w' := by
  have HP : Hid (∀ w, Calls Tryd.prog 22 #[.int .i64 64] w fun e w' => ∃ v, e = .returned v ∧ w'.ownsRow w.heap.size 3 1 v pList.length (ic pList) ∧ Below w.heap.size w w') := primes_any
  go_enter Tryd.func10, Tryd.ntmps10
  go_wp2_with (go_at_call 22; refine (HP.out _).mono ?_; rintro e w1 ⟨v, rfl, hown, hb1⟩; obtain ⟨pa, pc, rfl⟩ := owns_form hown)
  have hb2 : Below w.heap.size w ((w.alloc (.cells (stA zero8) 44)).alloc (.cells (cellsU (full [])).toArray 56)) := ((Below.refl _ _).alloc (Nat.le_refl _) _).alloc (by simp) _
  have R0 : Row w1 w.heap.size (cellsU (h8 0)) := Row.below ((Row.new' w (stA zero8) 44 _ _ rfl rfl).alloc (.cells (cellsU (full [])).toArray 56)) hb1 (by simp; omega)
  have R1 : Row w1 (w.heap.size + 1) (cellsU (full (kList.take 0))) := Row.below (Row.new' (w.alloc (.cells (stA zero8) 44)) (cellsU (full [])).toArray 56 _ _ (by simp) rfl) hb1 (by simp)
  have hbb : Below w.heap.size w w1 := bel_then hb2 hb1
  obtain ⟨pb, rfl, -, hpb1, hpb2, hpat⟩ := own_formI hown (by decide)
  have hp2 : w.heap.size + 1 < pb := by simp at hpb1; omega
  have H1 := Hid.mk (And.intro R0 (And.intro R1 hbb))
  have HPA := Hid.mk hpat
  clear hb1 hb2 R0 R1 hbb hown hpat hpb1
  go_wp2
  go_loopw [34] (fun i wr => ∃ k : Nat, k ≤ 64 ∧ i = .int .i64 k ∧ Row wr w.heap.size (cellsU (h8 k)) ∧ Row wr (w.heap.size + 1) (cellsU (full (kList.take k))) ∧ IsAt wr pb pList ∧ pb < wr.heap.size ∧ Below w.heap.size w wr) (fun i _ => 64 - (intOf i).toNat)
  case atStart => exact ⟨0, by omega, rfl, H1.out.1, H1.out.2.1, HPA.out, hpb2, H1.out.2.2⟩
  case round =>
    obtain ⟨k, hk, rfl, R0, R1, hpat, hpbl, hnx⟩ := hrel
    clear H1 HPA hpb2
    have hws := hnx.size
    by_cases hlt : k < 64
    · have hltp : (k : Int) < (pList.length : Int) := by rw [pList_len]; omega
      have hltp' : k < pList.length := by rw [pList_len]; omega
      have cp := hpat k hltp'
      obtain ⟨pk, hpk⟩ : ∃ y, pList[k]?.getD 0 = y := ⟨_, rfl⟩
      rw [show pList[k] = pk by rw [← hpk, List.getElem?_eq_getElem hltp']; rfl] at cp
      have hpm := pList_lt pk (by rw [← hpk, List.getElem?_eq_getElem hltp']; exact List.getElem_mem hltp')
      have fp : IntKind.u64.wrap (pk : Int) = (pk : Int) := by rw [IntKind.wrap_u64]; omega
      have h3 : ∀ w, Calls Tryd.prog 23 #[.int .u64 (pk : Int), .int .i64 3] w fun e w' => e = .returned (.int .u32 (U (kList[k]?.getD 0))) ∧ Below w.heap.size w w' := fun w => by have := root3_any k hlt w; rw [hpk] at this; exact this
      have HR3 := Hid.mk h3
      have HRW := Hid.mk (And.intro R0 (And.intro R1 (And.intro hpat hnx)))
      have hk1 : (k : Int) < 64 := by omega
      obtain ⟨zk, hzk⟩ : ∃ y, kList[k]?.getD 0 = y := ⟨_, rfl⟩
      rw [hzk] at HR3
      have HZK := Hid.mk hzk
      clear h3 R0 R1 hpat hnx hpm hzk
      by_cases hk8 : k < 8
      · have h2 : ∀ w, Calls Tryd.prog 23 #[.int .u64 (pk : Int), .int .i64 2] w fun e w' => e = .returned (.int .u32 (U (start.list[k]?.getD 0))) ∧ Below w.heap.size w w' := fun w => by have := root2_any k hk8 w; rw [hpk] at this; exact this
        obtain ⟨zh, hzh⟩ : ∃ y, start.list[k]?.getD 0 = y := ⟨_, rfl⟩
        rw [hzh] at h2
        have hRR : ∀ (q : Int) (w : World), (q = 3 ∨ q = 2) → Calls Tryd.prog 23 #[.int .u64 (pk : Int), .int .i64 q] w fun e w' => e = .returned (.int .u32 (U (pickR q zk zh))) ∧ Below w.heap.size w w' := fun q w hq => by
          rcases hq with rfl | rfl
          · exact HR3.out w
          · exact h2 w
        have HRR := Hid.mk hRR
        have HZH := Hid.mk hzh
        clear h2 hzh hpk hRR HR3
        go_wp2_with (go_at_call 23; refine (HRR.out _ _ (by first | exact Or.inl rfl | exact Or.inr rfl)).mono ?_; rintro e w5 ⟨rfl, hb5⟩; have c5 := (Row.below HRW.out.2.1 hb5 (by omega)).word k (by rw [kfull_len]; omega); have f5 := (Row.below HRW.out.2.1 hb5 (by omega)).free k (by rw [kfull_len]; omega))
        refine (HRR.out 2 _ (Or.inr rfl)).mono ?_
        rintro e w6 ⟨rfl, hb6⟩
        have hs5 := hb5.size
        have hs6 := hb6.size
        have hs6' : w5.heap.size ≤ w6.heap.size := by simpa using hs6
        have hb6' : Below w.heap.size w w6 := bel_then ((bel_then HRW.out.2.2.2 hb5).setCell (p := ⟨w.heap.size + 1, k, none⟩) (Nat.le_succ _) (.int .u32 (U zk))) hb6
        have Q1 : Row w6 (w.heap.size + 1) (cellsU (full (kList.take (k + 1)))) := by
          refine Row.below (Row.to ((Row.below HRW.out.2.1 hb5 (by omega)).set k _) ?_) hb6 (by simp; omega)
          rw [pickR_3, cellsU_set, ← HZK.out, kfull_set k hlt]
        have Q0 : Row w6 w.heap.size (cellsU (h8 k)) := Row.below ((Row.below HRW.out.1 hb5 (by omega)).other _ _ _ (by omega)) hb6 (by simp; omega)
        have Q2 : IsAt w6 pb pList := fun j hj => (hb6.cell (p := ⟨pb, j, none⟩) (by simp; omega)).trans ((World.cell?_setCell_other _ _ _ _ (by intro e; simp at e; try omega)).trans ((hb5.cell (p := ⟨pb, j, none⟩) hpbl).trans (HRW.out.2.2.1 j hj)))
        have c6 := Q0.word k (by rw [h8_len]; omega)
        have f6 := Q0.free k (by rw [h8_len]; omega)
        have HQ := Hid.mk (And.intro Q0 (And.intro Q1 (And.intro Q2 hb6')))
        have hpb6 : pb < w6.heap.size := by omega
        clear Q0 Q1 Q2 hb6' hb5 hb6 c5 f5 hs5 hs6 HRW HRR cp
        go_wp2
        go_roundw
        case rel =>
          refine ⟨k + 1, by omega, by go_num, Row.to (HQ.out.1.set k _) ?_, HQ.out.2.1.other _ _ _ (by omega), fun j hj => (World.cell?_setCell_other _ _ _ _ (by intro e; simp at e; try omega)).trans (HQ.out.2.2.1 j hj), by simpa using hpb6, HQ.out.2.2.2.setCell (Nat.le_refl _) _⟩
          rw [pickR_2, cellsU_set, ← HZH.out, h8_set k hk8]
        case measure => simp [intOf]; omega
      · go_wp2_with (go_at_call 23; refine (HR3.out _).mono ?_; rintro e w5 ⟨rfl, hb5⟩; have c5 := (Row.below HRW.out.2.1 hb5 (by omega)).word k (by rw [kfull_len]; omega); have f5 := (Row.below HRW.out.2.1 hb5 (by omega)).free k (by rw [kfull_len]; omega))
        have hs5 := hb5.size
        go_roundw
        case rel =>
          refine ⟨k + 1, by omega, by go_num, ?_, Row.to ((Row.below HRW.out.2.1 hb5 (by omega)).set k _) ?_, fun j hj => (World.cell?_setCell_other _ _ _ _ (by intro e; simp at e; try omega)).trans ((hb5.cell (p := ⟨pb, j, none⟩) hpbl).trans (HRW.out.2.2.1 j hj)), by simp; omega, (bel_then HRW.out.2.2.2 hb5).setCell (p := ⟨w.heap.size + 1, k, none⟩) (Nat.le_succ _) _⟩
          · rw [h8_past (k + 1) (by omega), ← h8_past k (by omega)]
            exact (Row.below HRW.out.1 hb5 (by omega)).other _ _ _ (by omega)
          · rw [cellsU_set, ← HZK.out, kfull_set k hlt]
        case measure => simp [intOf]; omega
    · have hke : k = 64 := by omega
      rw [hke, h8_past 64 (by omega)] at R0
      rw [hke, show kList.take 64 = kList from rfl, full_whole kList rfl] at R1
      have hltp : ¬ ((k : Int) < (pList.length : Int)) := by rw [pList_len]; omega
      obtain ⟨wa, rfl⟩ : ∃ y, y = wr := ⟨_, rfl⟩
      have HA := Hid.mk (And.intro R0 (And.intro R1 hnx))
      clear R0 R1 hnx hpat hke HP
      have n1 : ¬ 9223372036854775807 < s.size + 1 := by omega
      obtain ⟨N0, hN0⟩ : ∃ y, (119 - s.size % 64) % 64 = y := ⟨_, rfl⟩
      have hN1 : N0 < 64 := by omega
      have HN0 := Hid.mk hN0
      clear hN0
      go_wp2
      go_loopw [8] (fun v wr => ∃ n : Nat, ∃ x : ByteArray, n ≤ N0 ∧ v = .string x ∧ x.data.toList = s.data.toList ++ 128 :: List.replicate n 0 ∧ x.size = s.size + 1 + n ∧ wr = wa) (fun v _ => 1000 - lenS v)
      case atStart => exact ⟨0, s ++ ⟨#[128]⟩, by omega, rfl, by rw [strcat_data]; rfl, by simp [ByteArray.size_append]; rfl, rfl⟩
      case round =>
        obtain ⟨n, x, hn, rfl, hx, hxs, rfl⟩ := hrel
        have HX := Hid.mk hx
        clear hx
        have n2 : ¬ 9223372036854775807 < x.size + 1 := by omega
        by_cases hmod : x.size % 64 = 56
        · have hnN : n = N0 := by have := HN0.out; omega
          have hm1 : (x.size : Int).tmod 64 = 56 := by rw [Int.tmod_eq_emod_of_nonneg (by omega)]; omega
          rw [hnN] at hxs
          have HXN : Hid (x.data.toList = s.data.toList ++ 128 :: List.replicate N0 0) := by have := HX.out; rw [hnN] at this; exact this
          have HXS := Hid.mk hxs
          clear hxs hmod HX hnN n2
          obtain ⟨wb, rfl⟩ : ∃ y, y = wr := ⟨_, rfl⟩
          have w1' : IntKind.u64.wrap (s.size : Int) = (s.size : Int) := by rw [IntKind.wrap_u64]; omega
          have w2' : IntKind.u64.wrap ((s.size : Int) * 8) = (s.size : Int) * 8 := by rw [IntKind.wrap_u64]; omega
          go_wp2
          go_loopw [8, 9] (fun v i wr => ∃ t : Nat, ∃ y : ByteArray, ∃ iI : Int, t ≤ 8 ∧ iI = 56 - 8 * (t : Int) ∧ i = .int .i64 iI ∧ v = .string y ∧ y.data.toList = x.data.toList ++ (be8 (8 * s.size)).take t ∧ y.size = x.size + t ∧ Below wb.heap.size wb wr) (fun v _ _ => 1000 - lenS v)
          case atStart => exact ⟨0, x, 56, by omega, by omega, rfl, rfl, by simp, by simp, Below.refl _ _⟩
          case round =>
            obtain ⟨t, y, iI, ht, hiI, rfl, rfl, hy, hys, hnb⟩ := hrel
            have HY := Hid.mk (And.intro hy hys)
            have hxs := HXS.out
            have n2 : ¬ 9223372036854775807 < y.size + 1 := by omega
            have HI := Hid.mk hiI
            have HNB := Hid.mk hnb
            have hwb := hnb.size
            by_cases ht8 : t < 8
            · have i1 : 0 ≤ iI := by omega
              have i2 : IntKind.i64.wrap (iI - 8) = iI - 8 := by rw [IntKind.wrap_i64]; omega
              clear hy hys hiI hnb hxs
              obtain ⟨bt, hbt, fv⟩ := be8_at (8 * s.size) t ht8
              rw [← HI.out, show (((8 * s.size : Nat) : Int)) = (s.size : Int) * 8 by omega] at fv
              have hcv := one_string wr bt
              have HBT := Hid.mk hbt
              clear hbt
              go_wp2
              go_roundw
              case rel =>
                refine ⟨t + 1, y ++ ⟨#[bt]⟩, _, by omega, ?_, rfl, rfl, ?_, ?_, HNB.out.alloc hwb _⟩
                · have := HI.out; omega
                · rw [strcat_data, HY.out.1, List.take_add_one, HBT.out, List.append_assoc]; rfl
                · rw [ByteArray.size_append, HY.out.2]; rfl
              case measure => have h1 := HXS.out; have h2 := HY.out.2; have e : (y ++ ⟨#[bt]⟩ : ByteArray).size = y.size + 1 := ByteArray.size_append; show 1000 - (y ++ ⟨#[bt]⟩ : ByteArray).size < 1000 - y.size; omega
            · have i1 : iI = -8 := by omega
              have ht9 : t = 8 := by omega
              subst i1
              subst ht9
              obtain ⟨pd, hpd⟩ : ∃ z, padded s.data.toList = z := ⟨_, rfl⟩
              have hsl : s.data.toList.length = s.size := by simp
              have hyp : y.data.toList = pd := by
                rw [hy, HXN.out, ← hpd, padded, hsl, HN0.out, List.append_assoc, List.cons_append, show List.take 8 (be8 (8 * s.size)) = be8 (8 * s.size) from rfl]
              have hpl : pd.length = y.size := by rw [← hyp]; simp
              have hpm : pd.length % 64 = 0 := by rw [← hpd]; exact padded_mod _
              have hp5 : pd.length ≤ 1000 := by rw [hpl, hys, hxs]; omega
              have hsum : sumL s.data.toList = tell (mixN start pd (pd.length / 64)) := by rw [sumL, hpd]
              have B1 := HA.out.1.below hnb (by omega)
              have B2 := HA.out.2.1.below hnb (by omega)
              have B3 := bel_then HA.out.2.2 hnb
              have HD := Hid.mk (And.intro B1 (And.intro B2 B3))
              have HSUM := Hid.mk hsum
              have HYP := Hid.mk hyp
              have HPL := Hid.mk hpl
              obtain ⟨wc, rfl⟩ : ∃ y, y = wr := ⟨_, rfl⟩
              clear hy hys hiI hnb hxs HI HY hyp hpl hsum B1 B2 B3 hpd hsl HA HNB HXN HXS HN0 n2 ht w1' w2'
              go_wp2
              go_loopw [8] (fun v wr => ∃ i : Nat, ∃ m : ByteArray, v = .string m ∧ m.data.toList = pd.drop (64 * i) ∧ 64 * i ≤ pd.length ∧ m.size = pd.length - 64 * i ∧ Row wr w.heap.size (cellsU (mixN start pd i).list) ∧ Row wr (w.heap.size + 1) (cellsU kList) ∧ Below w.heap.size w wr) (fun v _ => lenS v)
              case atStart => exact ⟨0, y, rfl, by rw [HYP.out]; rfl, by omega, by rw [HPL.out]; rfl, HD.out.1, HD.out.2.1, HD.out.2.2⟩
              case round =>
                obtain ⟨i, m, rfl, hm, hi64, hms, R0, R1, hnx⟩ := hrel
                obtain ⟨q, hq⟩ : ∃ z, mixN start pd i = z := ⟨_, rfl⟩
                rw [hq] at R0
                obtain ⟨wd, rfl⟩ : ∃ y, y = wr := ⟨_, rfl⟩
                have hwd := hnx.size
                have hwd1 := R1.lt (by show 0 < 64; decide)
                by_cases hne : m.size = 0
                · have hemp : m.toList.isEmpty = true := by
                    rw [ByteArray.toList_eq]
                    have : m.data.toList.length = 0 := by have : m.data.toList.length = m.size := by simp
                                                          omega
                    rw [List.length_eq_zero_iff.1 this]; rfl
                  have hie : i = pd.length / 64 := by omega
                  have hres : sumL s.data.toList = q.list.flatMap bytes4 := by rw [HSUM.out, ← hie, hq]; rfl
                  have HRES := Hid.mk hres
                  have HR := Hid.mk (And.intro R0 hnx)
                  clear hm hi64 hms R0 R1 hnx hq hie hres HD HSUM HYP HPL
                  go_wp2_with (refine wpList_load_mid rfl 44 (.tmp 3) rfl w.heap.size 0 rfl (cellsU q.list) _ HR.out.1.range Tryd.underlying44 rfl info8 ?_)
                  go_loopw [29, 252] (fun v i wr => ∃ j : Nat, ∃ o : ByteArray, j ≤ 8 ∧ i = .int .i64 j ∧ v = .string o ∧ o.data.toList = (q.list.take j).flatMap bytes4 ∧ o.size = 4 * j ∧ Below w.heap.size w wr) (fun _ i _ => 8 - (intOf i).toNat)
                  case atStart => exact ⟨0, ⟨#[]⟩, by omega, rfl, rfl, rfl, rfl, HR.out.2⟩
                  case round =>
                    obtain ⟨j, o, hj, rfl, rfl, ho, hos, hb⟩ := hrel
                    have hwr := hb.size
                    have HO := Hid.mk (And.intro ho (And.intro hos hb))
                    by_cases hjt : j < 8
                    · have n2 : ¬ 9223372036854775807 < o.size + 4 := by omega
                      clear ho hos hb
                      have hix : ∀ w, (Instr.index 44 (.agg (cellsU q.list).toArray) (.int .i64 j)).run Tryd.prog w = .ok (.int .u32 (U (q.list[j]?.getD 0))) w := fun w => index_row 44 43 8 (stA q) j _ w Tryd.underlying44 Tryd.sizeOf43 Tryd.isAgg43 hjt (stA_get q j hjt)
                      obtain ⟨z, hz⟩ : ∃ x, q.list[j]?.getD 0 = x := ⟨_, rfl⟩
                      rw [hz] at hix
                      obtain ⟨b0, b1, b2, b3, hbz, e0, e1, e2, e3⟩ := four_of z
                      have hcv := four_string wr b0 b1 b2 b3
                      have HZ := Hid.mk (And.intro hz hbz)
                      clear hz hbz
                      go_wp2
                      go_roundw
                      case rel =>
                        refine ⟨j + 1, o ++ ⟨#[b0, b1, b2, b3]⟩, by omega, by go_num, rfl, ?_, ?_, HO.out.2.2.alloc hwr _⟩
                        · rw [strcat_data, HO.out.1, bytes4_take q.list j hjt, HZ.out.1, HZ.out.2]
                        · rw [ByteArray.size_append, HO.out.2.1]; show _ + 4 = _; omega
                      case measure => simp [intOf]; omega
                    · have hje : j = 8 := by omega
                      go_wp2
                      go_ret
                      refine ⟨ret_strB ?_, HO.out.2.2⟩
                      rw [HO.out.1, HRES.out, hje, List.take_of_length_le (show q.list.length ≤ 8 from Nat.le_refl _)]
                · have hm64 : 64 ≤ m.size := by omega
                  have hmdl : m.data.toList.length = m.size := by simp
                  have hemp : m.toList.isEmpty = false := by
                    rw [ByteArray.toList_eq]
                    cases hh : m.data.toList with
                    | nil => rw [hh] at hmdl; simp at hmdl; omega
                    | cons a r => rfl
                  obtain ⟨blk, hblk⟩ : ∃ z, m.data.toList.take 64 = z := ⟨_, rfl⟩
                  have HM := Hid.mk (And.intro hm (And.intro hms (And.intro hq (And.intro hblk hmdl))))
                  have HR := Hid.mk (And.intro R0 (And.intro R1 hnx))
                  clear hm hms hq R0 R1 hnx hmdl hblk
                  go_wp2
                  go_loopw [79] (fun i wx => ∃ t : Nat, t ≤ 64 ∧ i = .int .i64 t ∧ Row wx wd.heap.size (cellsU (full (sched blk t))) ∧ Row wx w.heap.size (cellsU q.list) ∧ Row wx (w.heap.size + 1) (cellsU kList) ∧ Below w.heap.size w wx) (fun i _ => 64 - (intOf i).toNat)
                  case atStart => exact ⟨0, by omega, rfl, Row.new' _ _ _ _ _ rfl rfl, HR.out.1.alloc _, HR.out.2.1.alloc _, HR.out.2.2.alloc hwd _⟩
                  case round =>
                    obtain ⟨t, ht, rfl, Rw, R0, R1, hnx⟩ := hrel
                    obtain ⟨we, rfl⟩ : ∃ y, y = wr := ⟨_, rfl⟩
                    have hwe := Rw.lt (by rw [cellsU, List.length_map, full_len (by rw [sched_length]; omega)]; omega)
                    have HW := Hid.mk (And.intro Rw (And.intro R0 (And.intro R1 hnx)))
                    have hsz := hnx.size
                    clear Rw R0 R1 hnx
                    by_cases ht64 : t < 64
                    · by_cases ht16 : t < 16
                      · have s0' : 0 ≤ 4 * (t : Int) := by omega
                        have s1' : 4 * (t : Int) ≤ 4 * (t : Int) + 4 := by omega
                        have s2' : 4 * (t : Int) + 4 ≤ (m.size : Int) := by omega
                        have s3' : (4 * (t : Int) + 4).toNat = 4 * t + 4 := by omega
                        have s4' : 0 ≤ 4 * (t : Int) + 4 := by omega
                        obtain ⟨z, hz⟩ : ∃ z, m.extract (4 * t) (4 * t + 4) = z := ⟨_, rfl⟩
                        have hzs : z.size = 4 := by rw [← hz]; simp; omega
                        have hzd : z.data.toList = (m.data.toList.drop (4 * t)).take 4 := by rw [← hz, extract_list, Nat.add_sub_cancel_left]
                        have hsb := Lib.run_convert_string_bytes (P := Tryd.prog) we 9 48 5 z Tryd.underlying9 Tryd.underlying48 Tryd.underlying5
                        have hac : acc z.data.toList 4 = next blk (sched blk t) t := by
                          have := acc_next m.data.toList t ht16 (by have := HM.out.2.2.2.2; omega)
                          rw [HM.out.2.2.2.1, ← hzd] at this; exact this
                        have HAC := Hid.mk hac
                        clear hac hzd
                        go_wp2
                        clear hsb
                        refine any_world (G := fun w => Code.wp _ _ _ _ w) (fun w7 => (∀ j (h : j < 4), w7.cell? ⟨we.heap.size, j, none⟩ = some (.int .u8 ((z.data.toList.getD j 0).toNat : Int))) ∧ Below we.heap.size we w7 ∧ we.heap.size < w7.heap.size) _ ⟨fun j h => Lib.bytesWorld_cell we 5 z j (by omega), Lib.bytesWorld_below we 5 z, by rw [Lib.bytesWorld_size]; omega⟩ ?_
                        intro w7 ⟨hzc, hb7, hs7⟩
                        have hl0 : (full (sched blk t)).length = 64 := full_len (by rw [sched_length]; omega)
                        have hset0 : (full (sched blk t)).set t (acc z.data.toList 0) = full (sched blk t) := by
                          have := full_set0 (sched blk t) (by rw [sched_length]; omega)
                          rw [sched_length] at this; exact this
                        have HS := Hid.mk (And.intro (And.intro hl0 hset0) (And.intro hzc (And.intro hb7 (And.intro (HW.out.1.below hb7 hwe) (And.intro (HW.out.2.1.below hb7 (by omega)) (And.intro (HW.out.2.2.1.below hb7 (by omega)) (bel_then HW.out.2.2.2 hb7)))))))
                        clear hzc hb7 hl0 hset0
                        go_loopw [93] (fun i wx => ∃ j : Nat, j ≤ 4 ∧ i = .int .i64 j ∧ Row wx wd.heap.size (cellsU ((full (sched blk t)).set t (acc z.data.toList j))) ∧ Row wx w.heap.size (cellsU q.list) ∧ Row wx (w.heap.size + 1) (cellsU kList) ∧ (∀ j (h : j < 4), wx.cell? ⟨we.heap.size, j, none⟩ = some (.int .u8 ((z.data.toList.getD j 0).toNat : Int))) ∧ Below w.heap.size w wx) (fun i _ => 4 - (intOf i).toNat)
                        case atStart => exact ⟨0, by omega, rfl, by rw [HS.out.1.2]; exact HS.out.2.2.2.1, HS.out.2.2.2.2.1, HS.out.2.2.2.2.2.1, HS.out.2.1, HS.out.2.2.2.2.2.2⟩
                        case round =>
                          obtain ⟨j, hj, rfl, Rw, R0, R1, hzc, hnx⟩ := hrel
                          have hl0 := HS.out.1.1
                          by_cases hj4 : j < 4
                          · have cz := hzc j hj4
                            obtain ⟨bz, hbz⟩ : ∃ y, z.data.toList.getD j 0 = y := ⟨_, rfl⟩
                            rw [hbz] at cz
                            have cb := Rw.word t (by rw [List.length_set, hl0]; exact ht64)
                            have fb := Rw.free t (by rw [List.length_set, hl0]; exact ht64)
                            obtain ⟨a, ha⟩ : ∃ y, acc z.data.toList j = y := ⟨_, rfl⟩
                            rw [List.getElem?_set_self (by rw [hl0]; exact ht64), Option.getD_some, ha] at cb
                            have hzl : z.data.toList.length = 4 := by have : z.data.toList.length = z.size := by simp
                                                                      omega
                            have hsu : acc z.data.toList (j + 1) = stepW a bz := by
                              rw [acc_succ _ j (by omega), ha]
                              congr 1
                              rw [← hbz, List.getD_eq_getElem?_getD, List.getElem?_eq_getElem (by omega)]; rfl
                            have HQ := Hid.mk (And.intro Rw (And.intro R0 (And.intro R1 (And.intro hzc (And.intro hnx hsu)))))
                            clear Rw R0 R1 hzc hnx hsu hl0 ha hbz hzl
                            go_wp2
                            go_roundw
                            case rel =>
                              refine ⟨j + 1, by omega, by go_num, Row.to (HQ.out.1.set t _) ?_, HQ.out.2.1.other _ _ _ (by omega), HQ.out.2.2.1.other _ _ _ (by omega), fun j' h' => (World.cell?_setCell_other _ _ _ _ (by intro e; simp at e; try omega)).trans (HQ.out.2.2.2.1 j' h'), HQ.out.2.2.2.2.1.setCell (by show w.heap.size ≤ wd.heap.size; omega) _⟩
                              rw [HQ.out.2.2.2.2.2, ← U_stepW, cellsU_set, List.set_set]
                            case measure => simp [intOf]; omega
                          · have hje : j = 4 := by omega
                            rw [hje, acc_store ht64 HAC.out] at Rw
                            have HQ := Hid.mk (And.intro Rw (And.intro R0 (And.intro R1 hnx)))
                            clear Rw R0 R1 hzc hnx hl0 hje
                            go_wp2
                            go_roundw
                            case rel => exact ⟨t + 1, by omega, by go_num, HQ.out.1, HQ.out.2.1, HQ.out.2.2.1, HQ.out.2.2.2⟩
                            case measure => simp [intOf]; omega
                      · have hln := sched_length blk t
                        obtain ⟨x15, e15, c15⟩ := HW.out.1.early (t - 15) (by omega) (by omega)
                        obtain ⟨x2, e2, c2⟩ := HW.out.1.early (t - 2) (by omega) (by omega)
                        obtain ⟨x16, e16, c16⟩ := HW.out.1.early (t - 16) (by omega) (by omega)
                        obtain ⟨x7, e7, c7⟩ := HW.out.1.early (t - 7) (by omega) (by omega)
                        have hc := HW.out.1.word t (by rw [full_len (by omega)]; omega)
                        have hf := HW.out.1.free t (by rw [full_len (by omega)]; omega)
                        have E := Hid.mk (And.intro e15 (And.intro e2 (And.intro e16 e7)))
                        clear e15 e2 e16 e7 hln
                        have n15 : ((t : Int) - 15).toNat = t - 15 := by omega
                        have n2 : ((t : Int) - 2).toNat = t - 2 := by omega
                        have n16 : ((t : Int) - 16).toNat = t - 16 := by omega
                        have n7 : ((t : Int) - 7).toNat = t - 7 := by omega
                        have p15 : 0 ≤ (t : Int) - 15 := by omega
                        have p2 : 0 ≤ (t : Int) - 2 := by omega
                        have p16 : 0 ≤ (t : Int) - 16 := by omega
                        have p7 : 0 ≤ (t : Int) - 7 := by omega
                        have q15 : (t : Int) - 15 < 64 := by omega
                        have q2 : (t : Int) - 2 < 64 := by omega
                        have q16 : (t : Int) - 16 < 64 := by omega
                        have q7 : (t : Int) - 7 < 64 := by omega
                        have v7 : IntKind.i64.wrap ((t : Int) - 7) = (t : Int) - 7 := by rw [IntKind.wrap_i64]; omega
                        have v16 : IntKind.i64.wrap ((t : Int) - 16) = (t : Int) - 16 := by rw [IntKind.wrap_i64]; omega
                        have m7 : 7 ≤ t := by omega
                        have m7' : (7 : Int) ≤ (t : Int) := by omega
                        have k7 : ¬ (t - 7 = t) := by omega
                        have k7' : ¬ (t = t - 7) := by omega
                        have k16 : ¬ (t - 16 = t) := by omega
                        have k16' : ¬ (t = t - 16) := by omega
                        go_wp2
                        go_quiet (fail)
                        go_wp2_with fail
                        go_region_held3 (fun w' => w'.cell? ⟨wd.heap.size, t - 7, none⟩ = some (.int .u32 (U x7)) ∧ w'.cell? ⟨wd.heap.size, t - 16, none⟩ = some (.int .u32 (U x16)))
                          (first | (go_keep; done) | exact ⟨(World.cell?_setCell_other _ _ _ _ (by intro e; simp at e; try omega)).trans (by simpa using c7), (World.cell?_setCell_other _ _ _ _ (by intro e; simp at e; try omega)).trans (by simpa using c16)⟩)
                          (first | (go_at_call 24; refine (rot_any _ _ _ rfl).mono ?_; rintro e w' ⟨rfl, kk, rfl⟩))
                        go_wp2
                        go_roundw
                        case rel =>
                          refine ⟨t + 1, by omega, by go_num, Row.to ((HW.out.1.drewN _).set t _) (sched_store (by omega) ?_), (HW.out.2.1.drewN _).other _ _ _ (by omega), (HW.out.2.2.1.drewN _).other _ _ _ (by omega), (below_drewN HW.out.2.2.2 _).setCell (by show w.heap.size ≤ wd.heap.size; omega) _⟩
                          obtain ⟨e1, e2, e3, e4⟩ := E.out
                          rw [next, if_neg (by omega), e1, e2, e3, e4, s0, s1]
                          simp only [U_xor, U_shr x15 3 8 rfl, U_shr x2 10 1024 rfl]
                          rw [← U_add, ← U_add, ← U_add]
                          omega
                        case measure => simp [intOf]; omega
                    · have hte : t = 64 := by omega
                      have Rw := HW.out.1
                      rw [hte, full_whole _ (sched_length _ _)] at Rw
                      have hq64 : blk.length = 64 ∨ True := Or.inr trivial
                      clear hq64 hte
                      have R0 := HW.out.2.1
                      have R1 := HW.out.2.2.1
                      have HV := Hid.mk (And.intro Rw (And.intro R0 (And.intro R1 HW.out.2.2.2)))
                      obtain ⟨⟨c0, c1, c2, c3, c4, c5, c6, c7⟩, -⟩ := R0.eight
                      clear Rw R0 R1 HW
                      go_wp2
                      go_quiet (fail)
                      go_wp2
                      clear c0 c1 c2 c3 c4 c5 c6 c7
                      go_loopw [16, 17, 18, 19, 20, 21, 22, 23, 165] (fun va vb vc vd ve vf vg vh i wr => ∃ k : Nat, ∃ r : St, k ≤ 64 ∧ i = .int .i64 k ∧ r = rounds (sched blk 64) q k ∧ va = .int .u32 (U r.a) ∧ vb = .int .u32 (U r.b) ∧ vc = .int .u32 (U r.c) ∧ vd = .int .u32 (U r.d) ∧ ve = .int .u32 (U r.e) ∧ vf = .int .u32 (U r.f) ∧ vg = .int .u32 (U r.g) ∧ vh = .int .u32 (U r.h) ∧ Row wr wd.heap.size (cellsU (sched blk 64)) ∧ Row wr w.heap.size (cellsU q.list) ∧ Row wr (w.heap.size + 1) (cellsU kList) ∧ Below w.heap.size w wr) (fun _ _ _ _ _ _ _ _ i _ => 64 - (intOf i).toNat)
                      case atStart => exact ⟨0, q, by omega, rfl, rfl, rfl, rfl, rfl, rfl, rfl, rfl, rfl, rfl, HV.out.1.drewN _, HV.out.2.1.drewN _, HV.out.2.2.1.drewN _, below_drewN HV.out.2.2.2 _⟩
                      case round =>
                        obtain ⟨k', r, hk', rfl, hr, rfl, rfl, rfl, rfl, rfl, rfl, rfl, rfl, Rw, R0, R1, hb⟩ := hrel
                        clear HV
                        have HV := Hid.mk (And.intro Rw (And.intro R0 (And.intro R1 hb)))
                        clear Rw R0 R1 hb
                        by_cases hlt' : k' < 64
                        · have ck := HV.out.2.2.1.word k' hlt'
                          obtain ⟨kk, hkk⟩ : ∃ x, kList[k']?.getD 0 = x := ⟨_, rfl⟩
                          rw [hkk] at ck
                          have cw := HV.out.1.word k' (by rw [sched_length]; exact hlt')
                          obtain ⟨ww, hww⟩ : ∃ x, (sched blk 64)[k']?.getD 0 = x := ⟨_, rfl⟩
                          rw [hww] at cw
                          have HX := Hid.mk (And.intro hr (And.intro hkk hww))
                          clear hr hkk hww
                          go_wp2
                          go_quiet ((go_at_call 24; exact Calls.quiet_of (rot_any _ _ _ (by rfl))))
                          go_wp2_with (go_at_call 24; refine (rot_any _ _ _ rfl).mono ?_; rintro e w' ⟨rfl, kq, rfl⟩)
                          go_roundw
                          case rel =>
                            refine ⟨k' + 1, step kk ww r, by omega, by go_num, ?_, v32 ?_, rfl, rfl, rfl, v32 ?_, rfl, rfl, rfl, ?_, ?_, ?_, ?_⟩
                            · obtain ⟨h1, h2, h3⟩ := HX.out
                              rw [rounds, h2, h3, ← h1]
                            · simp only [U_xor, U_and, U_or]
                              simp only [step, one, two, S1, S0, ch, maj, ← ch_eq, ← maj_eq, ← U_add]
                              omega
                            · simp only [U_xor, U_and, U_or]
                              simp only [step, one, two, S1, S0, ch, maj, ← ch_eq, ← maj_eq, ← U_add]
                              omega
                            · repeat (first | exact HV.out.1 | refine Row.drewN ?_ _)
                            · repeat (first | exact HV.out.2.1 | refine Row.drewN ?_ _)
                            · repeat (first | exact HV.out.2.2.1 | refine Row.drewN ?_ _)
                            · repeat (first | exact HV.out.2.2.2 | refine below_drewN ?_ _)
                          case measure => simp [intOf]; omega
                        · have hke : k' = 64 := by omega
                          rw [hke] at hr
                          clear hke
                          have HX := Hid.mk hr
                          clear hr
                          go_wp2
                          go_loopw [240] (fun i wr => ∃ j : Nat, j ≤ 8 ∧ i = .int .i64 j ∧ Row wr w.heap.size (cellsU (mixAt q r j)) ∧ Row wr (w.heap.size + 1) (cellsU kList) ∧ Below w.heap.size w wr) (fun i _ => 8 - (intOf i).toNat)
                          case atStart => exact ⟨0, by omega, rfl, HV.out.2.1, HV.out.2.2.1, HV.out.2.2.2⟩
                          case round =>
                            obtain ⟨j, hj, rfl, R0, R1, hb⟩ := hrel
                            have HQ := Hid.mk R0
                            have HQ1 := Hid.mk (And.intro R1 hb)
                            by_cases hjt : j < 8
                            · have cj := R0.word j (by simp [mixAt, St.list]; omega)
                              have fj := R0.free j (by simp [mixAt, St.list]; omega)
                              clear R0 R1 hb
                              have hix : ∀ w, (Instr.index 44 (.agg #[.int .u32 (U r.a), .int .u32 (U r.b), .int .u32 (U r.c), .int .u32 (U r.d), .int .u32 (U r.e), .int .u32 (U r.f), .int .u32 (U r.g), .int .u32 (U r.h)]) (.int .i64 j)).run Tryd.prog w = .ok (.int .u32 (U (r.list[j]?.getD 0))) w := fun w => index_row 44 43 8 (stA r) j _ w Tryd.underlying44 Tryd.sizeOf43 Tryd.isAgg43 hjt (stA_get r j hjt)
                              obtain ⟨y, hy⟩ : ∃ x, (mixAt q r j)[j]?.getD 0 = x := ⟨_, rfl⟩
                              obtain ⟨z, hz⟩ : ∃ x, r.list[j]?.getD 0 = x := ⟨_, rfl⟩
                              rw [hy] at cj
                              rw [hz] at hix
                              have HYZ := Hid.mk (And.intro hy hz)
                              clear hy hz
                              go_wp2
                              go_roundw
                              case rel =>
                                refine ⟨j + 1, by omega, by go_num, (HQ.out.set j _).to ?_, HQ1.out.1.other _ _ _ (by omega), HQ1.out.2.setCell (Nat.le_refl _) _⟩
                                rw [U_add, cellsU_set, ← HYZ.out.1, ← HYZ.out.2, mixAt_set q r j hjt]
                              case measure => simp [intOf]; omega
                            · have hje : j = 8 := by omega
                              have hqq : plus q r = mixN start pd (i + 1) := by
                                obtain ⟨g1, g2, g3, g4, g5⟩ := HM.out
                                rw [mixN, g3, ← g1, g4, mixB, ← HX.out]
                              rw [hje, mixAt_all, hqq] at R0
                              have HF := Hid.mk (And.intro R0 (And.intro R1 hb))
                              clear R0 R1 hb hje hqq HQ HQ1
                              have hm64' : (64 : Int) ≤ (m.size : Int) := by omega
                              go_wp2
                              go_roundw
                              case rel =>
                                obtain ⟨g1, g2, g3, g4, g5⟩ := HM.out
                                refine ⟨i + 1, m.extract 64 m.size, rfl, ?_, by omega, by simp; omega, HF.out.1, HF.out.2.1, HF.out.2.2⟩
                                rw [extract_list, List.take_of_length_le (by rw [List.length_drop]; omega), g1, List.drop_drop]
                                congr 1
                              case measure => show (m.extract 64 m.size).size < m.size; simp; omega
        · have hm1 : ¬ ((x.size : Int).tmod 64 = 56) := by rw [Int.tmod_eq_emod_of_nonneg (by omega)]; omega
          have hnN : n < N0 := by have := HN0.out; omega
          have HXS := Hid.mk hxs
          clear hxs
          go_wp2
          go_roundw
          case rel => exact ⟨n + 1, x ++ ⟨#[0]⟩, by omega, rfl, by rw [strcat_data, HX.out, List.replicate_succ', List.append_assoc]; rfl, by have := HXS.out; rw [ByteArray.size_append]; show x.size + 1 = _; omega, trivial⟩
          case measure => have := HXS.out; have e : (x ++ ⟨#[0]⟩ : ByteArray).size = x.size + 1 := ByteArray.size_append; show 1000 - (x ++ ⟨#[0]⟩ : ByteArray).size < 1000 - x.size; omega
end Go.Proofs.YtnpjdloagoaanaaDoor
