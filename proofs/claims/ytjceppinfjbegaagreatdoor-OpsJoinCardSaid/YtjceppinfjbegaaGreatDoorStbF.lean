import Derived.Test.YtjceppinfjbegaaGreatDoorStbD
set_option linter.unusedSimpArgs false
set_option linter.unusedVariables false
namespace Go.Proofs.YtjceppinfjbegaaGreatDoor
namespace Stb
open Go.Shelf Go.RowKit Go.Lib Go.Sort
variable {α : Type} [Inhabited α]

set_option maxHeartbeats 16000000 in
set_option maxRecDepth 1000000 in
/-- One, ahead of a part in a row. -/
theorem sym_left (enc : α → Value) (cf : α → α → Int) (g : Nat) (cb : Array Value) (blk off cap a m b N : Nat) (x : α) (P R' S : List α) (d0 : Array α) (w0 w : World) (eg : ∀ args w, (callFunc g args).run Tryz.prog w = .ok (.enter g args) w) (hcmp : CmpLays1 Tryz.prog g cb enc cf blk off d0.size w0) (ho : Ord (ltOf cf)) (R : Row1 enc w0 blk off d0) (hN : d0.size = N) (hsz : N < 4611686018427387904) (hlen : (P ++ ([x] ++ (R' ++ S))).length = N) (ha : P.length = a) (hm : m = a + 1) (hb : b = m + R'.length) (sR : Sorted (ltOf cf) R')
    (S0 : SW enc w0 blk off (P ++ ([x] ++ (R' ++ S))).toArray w) :
    Calls Tryz.prog 172 #[.slice (some ⟨blk, off, none⟩) N cap, .int .i64 a, .int .i64 m, .int .i64 b, .func (.func g) #[] cb] w fun e w' => e = .returned (.tuple #[]) ∧ ∃ M, Sorted (ltOf cf) M ∧ Same (ltOf cf) ([x] ++ R') M ∧ SW enc w0 blk off (P ++ (M ++ S)).toArray w' := by
  have mixed : Tryz.prog.follows .mixedOrders = true := by kernel_rfl
  have hcl0 := R.hO.cells
  simp only [Value.cells] at hcl0
  have hst := R.hO.store Tryz.prog
  have HC : Aside _ := hcmp
  have HOD : Aside (Ord (ltOf cf)) := ho
  obtain ⟨l, hl⟩ : ∃ q, q = P ++ ([x] ++ (R' ++ S)) := ⟨_, rfl⟩
  have hll : l.toArray.size = N := by rw [hl]; simpa using hlen
  have gxa : l.toArray[a]! = x := by rw [hl]; exact arr_at P (R' ++ S) x a ha.symm
  have HG : Aside (∀ k, k < N → l[k]? = some (l.toArray[k]!)) := fun k hk => arr_get l k (by simpa using (show k < l.toArray.size by omega))
  have hbN : b ≤ N := by have : P.length + (1 + (R'.length + S.length)) = N := by simpa [Nat.add_comm, Nat.add_left_comm, Nat.add_assoc] using hlen
                         omega
  have hmb : m ≤ b := by omega
  have ham : a < m := by omega
  have e1 : (m : Int) - (a : Int) = 1 := by omega
  have HS : Aside (SW enc w0 blk off l.toArray w ∧ (m = m ∨ ∀ y, l[m - 1]? = some y → ltOf cf y x = true) ∧ (b = b ∨ ∀ y, l[b]? = some y → ltOf cf y x = false)) := ⟨by rw [hl]; exact S0, Or.inl rfl, Or.inl rfl⟩
  have HL : Aside (l = P ++ ([x] ++ (R' ++ S)) ∧ P.length = a ∧ m = a + 1 ∧ b = m + R'.length ∧ (P ++ ([x] ++ (R' ++ S))).length = N ∧ Sorted (ltOf cf) R') := ⟨hl, ha, hm, hb, hlen, sR⟩
  clear S0 hcmp ho hl ha hm hb hlen sR
  go_enter Tryz.func172, Tryz.ntmps172
  go_wp2
  go_loopg [10, 11] (b - m) (fun g1 vi vj wr => ∃ i j : Nat, vi = .int .i64 i ∧ vj = .int .i64 j ∧ m ≤ i ∧ i ≤ j ∧ j ≤ b ∧ j - i ≤ g1 ∧ Aside (SW enc w0 blk off l.toArray wr ∧ (i = m ∨ ∀ y, l[i - 1]? = some y → ltOf cf y x = true) ∧ (j = b ∨ ∀ y, l[j]? = some y → ltOf cf y x = false)))
  case atStart => exact ⟨m, b, rfl, rfl, Nat.le_refl _, hmb, Nat.le_refl _, by omega, ⟨HS.out.1, Or.inl rfl, Or.inl rfl⟩⟩
  case round =>
    clear HS
    obtain ⟨i, j, rfl, rfl, hmi, hij, hjb, hg, H⟩ := hrel
    by_cases hlt : i < j
    · have hltz : (i : Int) < (j : Int) := by omega
      obtain ⟨h, hh⟩ : ∃ q, q = (i + j) / 2 := ⟨_, rfl⟩
      have hih : i ≤ h := by omega
      have hhj : h < j := by omega
      have eh : ((i : Int) + (j : Int)) / 2 = (h : Int) := by omega
      obtain ⟨y, gx⟩ : ∃ y, l.toArray[h]! = y := ⟨_, rfl⟩
      have GH : Aside (l[h]? = some y) := by have := HG.out h (by omega); rw [gx] at this; exact this
      have SJ : Aside (SW enc w0 blk off l.toArray wr) := H.out.1
      have HI : Aside ((i = m ∨ ∀ y, l[i - 1]? = some y → ltOf cf y x = true) ∧ (j = b ∨ ∀ y, l[j]? = some y → ltOf cf y x = false)) := H.out.2
      have gy := gxa
      clear H hh
      obtain ⟨iN, hiN⟩ : ∃ q, q = h := ⟨_, rfl⟩
      obtain ⟨jN, hjN⟩ : ∃ q, q = a := ⟨_, rfl⟩
      have ea : ((h : Int)).toNat = iN := by omega
      have pa : (0 : Int) ≤ (h : Int) := by omega
      have ba : (h : Int) < (N : Int) := by omega
      have ra : IntKind.i64.wrap ((h : Int)) = (h : Int) := by rw [IntKind.wrap_i64]; omega
      have ec : ((a : Int)).toNat = jN := by omega
      have pc : (0 : Int) ≤ (a : Int) := by omega
      have bc : (a : Int) < (N : Int) := by omega
      have rc : IntKind.i64.wrap ((a : Int)) = (a : Int) := by rw [IntKind.wrap_i64]; omega
      have la := SJ.out.cl R (by omega) h (by omega)
      have lb := SJ.out.cl R (by omega) a (by omega)
      rw [gx, ← hiN] at la
      rw [gy, ← hjN] at lb
      have hc := SJ.out.cmp HC.out (by omega) y x
      clear hiN hjN
      cases hlv : ltOf cf y x with
      | true =>
        have hv : cf y x < 0 := of_decide_eq_true hlv
        have hd : decide (cf y x < 0) = true := decide_eq_true hv
        have HLV : Aside (ltOf cf y x = true) := hlv
        clear hlv
        go_wp2_with fail
        try simp only [eh]
        go_quiet_grown (first | (go_at_fn g; refine Calls.grown_of (hc _ _)))
        have S2 : Aside (SW enc w0 blk off l.toArray (grow (wr.drewN nq) osq)) := SJ.out.grown nq osq
        clear la lb hc SJ
        generalize grow (wr.drewN nq) osq = w2 at S2 ⊢
        clear nq osq
        clear ea ec
        go_wp2
        go_roundg (j - (h + 1))
        case measure => omega
        case rel => exact ⟨h + 1, j, by first | go_num | (congr 1; omega), rfl, by omega, by omega, hjb, Nat.le_refl _, ⟨S2.out, Or.inr (fun z hz => by rw [Nat.add_sub_cancel, GH.out] at hz; cases hz; exact HLV.out), HI.out.2⟩⟩
      | false =>
        have hv : ¬ cf y x < 0 := of_decide_eq_false hlv
        have hd : decide (cf y x < 0) = false := decide_eq_false hv
        have HLV : Aside (ltOf cf y x = false) := hlv
        clear hlv
        go_wp2_with fail
        try simp only [eh]
        go_quiet_grown (first | (go_at_fn g; refine Calls.grown_of (hc _ _)))
        have S2 : Aside (SW enc w0 blk off l.toArray (grow (wr.drewN nq) osq)) := SJ.out.grown nq osq
        clear la lb hc SJ
        generalize grow (wr.drewN nq) osq = w2 at S2 ⊢
        clear nq osq
        clear ea ec
        go_wp2
        go_roundg (h - i)
        case measure => omega
        case rel => exact ⟨i, h, rfl, by first | rfl | go_num | (congr 1; omega), hmi, hih, by omega, Nat.le_refl _, ⟨S2.out, HI.out.1, Or.inr (fun z hz => by rw [GH.out] at hz; cases hz; exact HLV.out)⟩⟩
    · have hij' : i = j := by omega
      subst hij'
      have hltz : ¬ (i : Int) < (i : Int) := by omega
      obtain ⟨R1, R2, HR⟩ : ∃ R1 R2, Aside (R' = R1 ++ R2 ∧ R1.length = i - m ∧ (∀ y ∈ R1, ltOf cf y x = true) ∧ ∀ y ∈ R2, ltOf cf y x = false) := by
        obtain ⟨k1, k2, k3, k4, k5, k6⟩ := HL.out
        obtain ⟨q1, q2, q3⟩ := H.out
        rw [k1] at q2 q3
        exact find_first HOD.out k2 k3 (by omega) hmi hjb k6 q2 q3
      have HS2 : Aside (R1 = [] ++ R1 ∧ ([] : List α).length = a - a ∧ SW enc w0 blk off (P ++ ([] ++ x :: (R1 ++ (R2 ++ S)))).toArray wr) := ⟨rfl, by simp, by have := H.out.1; rw [HL.out.1, HR.out.1] at this; simpa using this⟩
      clear H
      go_wp2
      go_loopg [13] (i - a) (fun g2 vk wr => ∃ (k : Nat) (R3 R4 : List α), vk = .int .i64 k ∧ a ≤ k ∧ k + 1 ≤ i ∧ i - k ≤ g2 ∧ Aside (R1 = R3 ++ R4 ∧ R3.length = k - a ∧ SW enc w0 blk off (P ++ (R3 ++ x :: (R4 ++ (R2 ++ S)))).toArray wr))
      case atStart => exact ⟨a, [], R1, rfl, Nat.le_refl _, by omega, by omega, HS2⟩
      case round =>
        clear HS2
        obtain ⟨k, R3, R4, rfl, hak, hki, hg2, HJ⟩ := hrel
        by_cases hlk : k + 1 < i
        · have hlkz : (k : Int) < (i : Int) - 1 := by omega
          obtain ⟨y, R5, HY⟩ : ∃ y R5, Aside (R4 = y :: R5) := by
            obtain ⟨q1, q2, q3⟩ := HJ.out
            have := HR.out.2.1
            rw [q1, List.length_append] at this
            have hm := HL.out.2.2.1
            cases R4 with
            | nil => simp at this; omega
            | cons y l => exact ⟨y, l, rfl⟩
          obtain ⟨dj, hdj⟩ : ∃ q, q = (P ++ (R3 ++ x :: (R4 ++ (R2 ++ S)))).toArray := ⟨_, rfl⟩
          have hkl : k = (P ++ R3).length := by rw [List.length_append, HL.out.2.1, HJ.out.2.1]; omega
          have hsd : dj.size = N := by
            have := HL.out.2.2.2.2.1
            rw [HR.out.1, HJ.out.1] at this
            rw [hdj, ← this]
            simp
            omega
          have gx : dj[k]! = x := by
            rw [hdj]
            have := arr_at (P ++ R3) (R4 ++ (R2 ++ S)) x k hkl
            simpa using this
          have gy : dj[k + 1]! = y := by
            rw [hdj, HY.out]
            have := arr_at (P ++ (R3 ++ [x])) (R5 ++ (R2 ++ S)) y (k + 1) (by rw [hkl]; simp; omega)
            simpa using this
          have gs : swp dj k (k + 1) = (P ++ ((R3 ++ [y]) ++ x :: (R5 ++ (R2 ++ S)))).toArray := by
            rw [hdj, HY.out]
            have := swp_list (P ++ R3) [] (R5 ++ (R2 ++ S)) x y k (k + 1) hkl (by rw [hkl]; simp)
            simpa using this
          have SJ : Aside (SW enc w0 blk off dj wr) := by rw [hdj]; exact HJ.out.2.2
          have HJ2 : Aside (R1 = R3 ++ R4 ∧ R3.length = k - a) := ⟨HJ.out.1, HJ.out.2.1⟩
          clear hdj HJ hkl
          obtain ⟨iN, hiN⟩ : ∃ q, q = k := ⟨_, rfl⟩
          obtain ⟨jN, hjN⟩ : ∃ q, q = (k + 1) := ⟨_, rfl⟩
          have ea : ((k : Int)).toNat = iN := by omega
          have pa : (0 : Int) ≤ (k : Int) := by omega
          have ba : (k : Int) < (N : Int) := by omega
          have ra : IntKind.i64.wrap ((k : Int)) = (k : Int) := by rw [IntKind.wrap_i64]; omega
          have ec : (((k : Int) + 1)).toNat = jN := by omega
          have pc : (0 : Int) ≤ ((k : Int) + 1) := by omega
          have bc : ((k : Int) + 1) < (N : Int) := by omega
          have rc : IntKind.i64.wrap (((k : Int) + 1)) = ((k : Int) + 1) := by rw [IntKind.wrap_i64]; omega
          have S3 : Aside (SW enc w0 blk off (swp dj k (k + 1)) ((wr.setCell ⟨blk, off + iN, none⟩ (enc y)).setCell ⟨blk, off + jN, none⟩ (enc x)).drew) := by
            have := SJ.out.swapped R k (k + 1) (by omega) (by omega)
            rw [gx, gy] at this
            rw [hiN, hjN]
            exact this
          have ca : wr.cell? ⟨blk, off + iN, none⟩ = some (enc x) := by rw [hiN]; have := SJ.out.c1 R (by omega) k (by omega); rw [gx] at this; exact this
          have cb' : wr.cell? ⟨blk, off + jN, none⟩ = some (enc y) := by rw [hjN]; have := SJ.out.c1 R (by omega) (k + 1) (by omega); rw [gy] at this; exact this
          have fa : wr.frozen? ⟨blk, off + iN, none⟩ = false := by rw [hiN]; exact SJ.out.f1 R (by omega) k (by omega)
          have fb : wr.frozen? ⟨blk, off + jN, none⟩ = false := by rw [hjN]; exact SJ.out.f1 R (by omega) (k + 1) (by omega)
          obtain ⟨u, cc⟩ : ∃ u, (wr.setCell ⟨blk, off + iN, none⟩ (enc y)).cell? ⟨blk, off + jN, none⟩ = some u := by rw [hiN, hjN]; exact SJ.out.c2 R (by omega) k (k + 1) (by omega) (by omega) (enc y)
          have GS : Aside (swp dj k (k + 1) = (P ++ ((R3 ++ [y]) ++ x :: (R5 ++ (R2 ++ S)))).toArray) := gs
          clear SJ gx gy gs hiN hjN
          go_wp2_with fail
          go_big_region_o
          clear ca cb' cc fa fb
          generalize ((wr.setCell ⟨blk, off + iN, none⟩ (enc y)).setCell ⟨blk, off + jN, none⟩ (enc x)).drew = w3 at S3 ⊢
          clear ea ec
          go_wp2
          go_roundg (i - (k + 1))
          case measure => omega
          case rel => exact ⟨k + 1, R3 ++ [y], R5, by go_num, by omega, by omega, by omega, by rw [HJ2.out.1, HY.out]; simp, by rw [List.length_append, HJ2.out.2]; simp; omega, by have := S3.out; rw [GS.out] at this; exact this⟩
        · have hlkz : ¬ (k : Int) < (i : Int) - 1 := by omega
          go_wp2
          try simp only [Exit.inBlock, Exit.then]
          refine bodyPost_ret (results_none rfl _ _ _) rfl ?_
          obtain ⟨q1, q2, q3⟩ := HJ.out
          obtain ⟨k1, k2, k3, k4, k5, k6⟩ := HL.out
          obtain ⟨r1, r2, r3, r4⟩ := HR.out
          have h4 : R4 = [] := List.length_eq_zero_iff.1 (by rw [q1, List.length_append] at r2; omega)
          rw [h4, List.append_nil] at q1
          rw [h4, ← q1] at q3
          obtain ⟨p1, p2⟩ := put_first HOD.out (r1 ▸ k6) r3 r4
          exact ⟨rfl, R1 ++ x :: R2, p1, by rw [r1]; simpa using p2, by simpa using q3⟩
end Stb
end Go.Proofs.YtjceppinfjbegaaGreatDoor

namespace Go.Proofs.YtjceppinfjbegaaGreatDoor
namespace Stb
open Go.Shelf Go.RowKit Go.Lib Go.Sort
variable {α : Type} [Inhabited α]

set_option maxHeartbeats 16000000 in
set_option maxRecDepth 1000000 in
/-- One, behind a part in a row. -/
theorem sym_right (enc : α → Value) (cf : α → α → Int) (g : Nat) (cb : Array Value) (blk off cap a m b N : Nat) (x : α) (P L S : List α) (d0 : Array α) (w0 w : World) (eg : ∀ args w, (callFunc g args).run Tryz.prog w = .ok (.enter g args) w) (hcmp : CmpLays1 Tryz.prog g cb enc cf blk off d0.size w0) (ho : Ord (ltOf cf)) (R : Row1 enc w0 blk off d0) (hN : d0.size = N) (hsz : N < 4611686018427387904) (hlen : (P ++ (L ++ ([x] ++ S))).length = N) (ha : P.length = a) (hm : m = a + L.length) (hb : b = m + 1) (h2 : 2 ≤ L.length) (sL : Sorted (ltOf cf) L)
    (S0 : SW enc w0 blk off (P ++ (L ++ ([x] ++ S))).toArray w) :
    Calls Tryz.prog 172 #[.slice (some ⟨blk, off, none⟩) N cap, .int .i64 a, .int .i64 m, .int .i64 b, .func (.func g) #[] cb] w fun e w' => e = .returned (.tuple #[]) ∧ ∃ M, Sorted (ltOf cf) M ∧ Same (ltOf cf) (L ++ [x]) M ∧ SW enc w0 blk off (P ++ (M ++ S)).toArray w' := by
  have mixed : Tryz.prog.follows .mixedOrders = true := by kernel_rfl
  have hcl0 := R.hO.cells
  simp only [Value.cells] at hcl0
  have hst := R.hO.store Tryz.prog
  have HC : Aside _ := hcmp
  have HOD : Aside (Ord (ltOf cf)) := ho
  obtain ⟨l, hl⟩ : ∃ q, q = P ++ (L ++ ([x] ++ S)) := ⟨_, rfl⟩
  have hll : l.toArray.size = N := by rw [hl]; simpa using hlen
  have gxm : l.toArray[m]! = x := by rw [hl]; have := arr_at (P ++ L) S x m (by rw [List.length_append]; omega); simpa using this
  have HG : Aside (∀ k, k < N → l[k]? = some (l.toArray[k]!)) := fun k hk => arr_get l k (by simpa using (show k < l.toArray.size by omega))
  have hbN : b ≤ N := by have : P.length + (L.length + (1 + S.length)) = N := by simpa [Nat.add_comm, Nat.add_left_comm, Nat.add_assoc] using hlen
                         omega
  have ham : a < m := by omega
  have hmb : m < b := by omega
  have e1 : ¬ ((m : Int) - (a : Int) = 1) := by omega
  have e2 : (b : Int) - (m : Int) = 1 := by omega
  have HS : Aside (SW enc w0 blk off l.toArray w ∧ (a = a ∨ ∀ y, l[a - 1]? = some y → ltOf cf x y = false) ∧ (m = m ∨ ∀ y, l[m]? = some y → ltOf cf x y = true)) := ⟨by rw [hl]; exact S0, Or.inl rfl, Or.inl rfl⟩
  have HL : Aside (l = P ++ (L ++ ([x] ++ S)) ∧ P.length = a ∧ m = a + L.length ∧ (P ++ (L ++ ([x] ++ S))).length = N ∧ Sorted (ltOf cf) L) := ⟨hl, ha, hm, hlen, sL⟩
  clear S0 hcmp ho hl ha hm hb hlen sL h2
  go_enter Tryz.func172, Tryz.ntmps172
  go_wp2
  go_loopg [14, 15] (m - a) (fun g1 vi vj wr => ∃ i j : Nat, vi = .int .i64 i ∧ vj = .int .i64 j ∧ a ≤ i ∧ i ≤ j ∧ j ≤ m ∧ j - i ≤ g1 ∧ Aside (SW enc w0 blk off l.toArray wr ∧ (i = a ∨ ∀ y, l[i - 1]? = some y → ltOf cf x y = false) ∧ (j = m ∨ ∀ y, l[j]? = some y → ltOf cf x y = true)))
  case atStart => exact ⟨a, m, rfl, rfl, Nat.le_refl _, by omega, Nat.le_refl _, by omega, ⟨HS.out.1, Or.inl rfl, Or.inl rfl⟩⟩
  case round =>
    clear HS
    obtain ⟨i, j, rfl, rfl, hmi, hij, hjb, hg, H⟩ := hrel
    by_cases hlt : i < j
    · have hltz : (i : Int) < (j : Int) := by omega
      obtain ⟨h, hh⟩ : ∃ q, q = (i + j) / 2 := ⟨_, rfl⟩
      have hih : i ≤ h := by omega
      have hhj : h < j := by omega
      have eh : ((i : Int) + (j : Int)) / 2 = (h : Int) := by omega
      obtain ⟨y, gy⟩ : ∃ y, l.toArray[h]! = y := ⟨_, rfl⟩
      have GH : Aside (l[h]? = some y) := by have := HG.out h (by omega); rw [gy] at this; exact this
      have SJ : Aside (SW enc w0 blk off l.toArray wr) := H.out.1
      have HI : Aside ((i = a ∨ ∀ y, l[i - 1]? = some y → ltOf cf x y = false) ∧ (j = m ∨ ∀ y, l[j]? = some y → ltOf cf x y = true)) := H.out.2
      have gx := gxm
      clear H hh
      obtain ⟨iN, hiN⟩ : ∃ q, q = m := ⟨_, rfl⟩
      obtain ⟨jN, hjN⟩ : ∃ q, q = h := ⟨_, rfl⟩
      have ea : ((m : Int)).toNat = iN := by omega
      have pa : (0 : Int) ≤ (m : Int) := by omega
      have ba : (m : Int) < (N : Int) := by omega
      have ra : IntKind.i64.wrap ((m : Int)) = (m : Int) := by rw [IntKind.wrap_i64]; omega
      have ec : ((h : Int)).toNat = jN := by omega
      have pc : (0 : Int) ≤ (h : Int) := by omega
      have bc : (h : Int) < (N : Int) := by omega
      have rc : IntKind.i64.wrap ((h : Int)) = (h : Int) := by rw [IntKind.wrap_i64]; omega
      have la := SJ.out.cl R (by omega) m (by omega)
      have lb := SJ.out.cl R (by omega) h (by omega)
      rw [gx, ← hiN] at la
      rw [gy, ← hjN] at lb
      have hc := SJ.out.cmp HC.out (by omega) x y
      clear hiN hjN
      cases hlv : ltOf cf x y with
      | true =>
        have hv : cf x y < 0 := of_decide_eq_true hlv
        have hd : decide (cf x y < 0) = true := decide_eq_true hv
        have HLV : Aside (ltOf cf x y = true) := hlv
        clear hlv
        go_wp2_with fail
        try simp only [eh]
        go_quiet_grown (first | (go_at_fn g; refine Calls.grown_of (hc _ _)))
        have S2 : Aside (SW enc w0 blk off l.toArray (grow (wr.drewN nq) osq)) := SJ.out.grown nq osq
        clear la lb hc SJ
        generalize grow (wr.drewN nq) osq = w2 at S2 ⊢
        clear nq osq
        clear ea ec
        go_wp2
        go_roundg (h - i)
        case measure => omega
        case rel => exact ⟨i, h, rfl, by first | rfl | go_num | (congr 1; omega), hmi, hih, by omega, Nat.le_refl _, ⟨S2.out, HI.out.1, Or.inr (fun z hz => by rw [GH.out] at hz; cases hz; exact HLV.out)⟩⟩
      | false =>
        have hv : ¬ cf x y < 0 := of_decide_eq_false hlv
        have hd : decide (cf x y < 0) = false := decide_eq_false hv
        have HLV : Aside (ltOf cf x y = false) := hlv
        clear hlv
        go_wp2_with fail
        try simp only [eh]
        go_quiet_grown (first | (go_at_fn g; refine Calls.grown_of (hc _ _)))
        have S2 : Aside (SW enc w0 blk off l.toArray (grow (wr.drewN nq) osq)) := SJ.out.grown nq osq
        clear la lb hc SJ
        generalize grow (wr.drewN nq) osq = w2 at S2 ⊢
        clear nq osq
        clear ea ec
        go_wp2
        go_roundg (j - (h + 1))
        case measure => omega
        case rel => exact ⟨h + 1, j, by first | go_num | (congr 1; omega), rfl, by omega, by omega, hjb, Nat.le_refl _, ⟨S2.out, Or.inr (fun z hz => by rw [Nat.add_sub_cancel, GH.out] at hz; cases hz; exact HLV.out), HI.out.2⟩⟩
    · have hij' : i = j := by omega
      subst hij'
      have hltz : ¬ (i : Int) < (i : Int) := by omega
      obtain ⟨L1, L2, HR⟩ : ∃ L1 L2, Aside (L = L1 ++ L2 ∧ L1.length = i - a ∧ (∀ y ∈ L1, ltOf cf x y = false) ∧ ∀ y ∈ L2, ltOf cf x y = true) := by
        obtain ⟨k1, k2, k3, k4, k5⟩ := HL.out
        obtain ⟨q1, q2, q3⟩ := H.out
        rw [k1] at q2 q3
        exact find_last HOD.out k2 (by omega) hmi hjb k5 q2 q3
      have HS2 : Aside (L2 = L2 ++ [] ∧ L2.length = m - i ∧ SW enc w0 blk off (P ++ (L1 ++ (L2 ++ x :: ([] ++ S)))).toArray wr) := ⟨by simp, by have := HL.out.2.2.1; rw [HR.out.1, List.length_append, HR.out.2.1] at this; omega, by have := H.out.1; rw [HL.out.1, HR.out.1] at this; simpa using this⟩
      clear H
      go_wp2
      go_loopg [17] (m - i) (fun g2 vk wr => ∃ (k : Nat) (L3 L4 : List α), vk = .int .i64 k ∧ i ≤ k ∧ k ≤ m ∧ k - i ≤ g2 ∧ Aside (L2 = L3 ++ L4 ∧ L3.length = k - i ∧ SW enc w0 blk off (P ++ (L1 ++ (L3 ++ x :: (L4 ++ S)))).toArray wr))
      case atStart => exact ⟨m, L2, [], rfl, hjb, Nat.le_refl _, Nat.le_refl _, HS2⟩
      case round =>
        clear HS2
        obtain ⟨k, L3, L4, rfl, hak, hki, hg2, HJ⟩ := hrel
        by_cases hlk : i < k
        · have hlkz : (i : Int) < (k : Int) := by omega
          obtain ⟨kp, hkp⟩ : ∃ q, q + 1 = k := ⟨k - 1, by omega⟩
          have zkp : (k : Int) = (kp : Int) + 1 := by omega
          have hlkz' : (i : Int) < (kp : Int) + 1 := by omega
          obtain ⟨L5, y, HY⟩ : ∃ L5 y, Aside (L3 = L5 ++ [y] ∧ L5.length = kp - i) := by
            obtain ⟨q1, q2, q3⟩ := HJ.out
            have hne : L3 ≠ [] := by intro e; rw [e] at q2; simp at q2; omega
            exact ⟨L3.dropLast, L3.getLast hne, (List.dropLast_concat_getLast hne).symm, by rw [List.length_dropLast]; omega⟩
          obtain ⟨dj, hdj⟩ : ∃ q, q = (P ++ (L1 ++ (L3 ++ x :: (L4 ++ S)))).toArray := ⟨_, rfl⟩
          have hkl : kp = (P ++ (L1 ++ L5)).length := by rw [List.length_append, List.length_append, HL.out.2.1, HR.out.2.1, HY.out.2]; omega
          have hsd : dj.size = N := by
            have := HL.out.2.2.2.1
            rw [HR.out.1, HJ.out.1] at this
            rw [hdj, ← this]
            simp
            omega
          have gx : dj[k]! = x := by
            rw [hdj, HY.out.1]
            have := arr_at (P ++ (L1 ++ (L5 ++ [y]))) (L4 ++ S) x k (by rw [← hkp, hkl]; simp; omega)
            simpa using this
          have gy : dj[kp]! = y := by
            rw [hdj, HY.out.1]
            have := arr_at (P ++ (L1 ++ L5)) (x :: (L4 ++ S)) y kp hkl
            simpa using this
          have gs : swp dj k kp = (P ++ (L1 ++ (L5 ++ x :: ((y :: L4) ++ S)))).toArray := by
            rw [hdj, HY.out.1]
            have := swp_list' (P ++ (L1 ++ L5)) [] (L4 ++ S) y x kp k hkl (by rw [← hkp, hkl]; simp)
            simpa using this
          have SJ : Aside (SW enc w0 blk off dj wr) := by rw [hdj]; exact HJ.out.2.2
          have HJ2 : Aside (L2 = L3 ++ L4) := HJ.out.1
          clear hdj HJ hkl
          obtain ⟨iN, hiN⟩ : ∃ q, q = k := ⟨_, rfl⟩
          obtain ⟨jN, hjN⟩ : ∃ q, q = kp := ⟨_, rfl⟩
          have ea : (((kp : Int) + 1)).toNat = iN := by omega
          have pa : (0 : Int) ≤ ((kp : Int) + 1) := by omega
          have ba : ((kp : Int) + 1) < (N : Int) := by omega
          have ra : IntKind.i64.wrap (((kp : Int) + 1)) = ((kp : Int) + 1) := by rw [IntKind.wrap_i64]; omega
          have ec : ((kp : Int)).toNat = jN := by omega
          have pc : (0 : Int) ≤ (kp : Int) := by omega
          have bc : (kp : Int) < (N : Int) := by omega
          have rc : IntKind.i64.wrap ((kp : Int)) = (kp : Int) := by rw [IntKind.wrap_i64]; omega
          have S3 : Aside (SW enc w0 blk off (swp dj k kp) ((wr.setCell ⟨blk, off + iN, none⟩ (enc y)).setCell ⟨blk, off + jN, none⟩ (enc x)).drew) := by
            have := SJ.out.swapped R k kp (by omega) (by omega)
            rw [gx, gy] at this
            rw [hiN, hjN]
            exact this
          have ca : wr.cell? ⟨blk, off + iN, none⟩ = some (enc x) := by rw [hiN]; have := SJ.out.c1 R (by omega) k (by omega); rw [gx] at this; exact this
          have cb' : wr.cell? ⟨blk, off + jN, none⟩ = some (enc y) := by rw [hjN]; have := SJ.out.c1 R (by omega) kp (by omega); rw [gy] at this; exact this
          have fa : wr.frozen? ⟨blk, off + iN, none⟩ = false := by rw [hiN]; exact SJ.out.f1 R (by omega) k (by omega)
          have fb : wr.frozen? ⟨blk, off + jN, none⟩ = false := by rw [hjN]; exact SJ.out.f1 R (by omega) kp (by omega)
          obtain ⟨u, cc⟩ : ∃ u, (wr.setCell ⟨blk, off + iN, none⟩ (enc y)).cell? ⟨blk, off + jN, none⟩ = some u := by rw [hiN, hjN]; exact SJ.out.c2 R (by omega) k kp (by omega) (by omega) (enc y)
          have GS : Aside (swp dj k kp = (P ++ (L1 ++ (L5 ++ x :: ((y :: L4) ++ S)))).toArray) := gs
          clear SJ gx gy gs hiN hjN
          go_wp2_with fail
          go_big_region_o
          clear ca cb' cc fa fb
          generalize ((wr.setCell ⟨blk, off + iN, none⟩ (enc y)).setCell ⟨blk, off + jN, none⟩ (enc x)).drew = w3 at S3 ⊢
          clear ea ec
          go_wp2
          go_roundg (kp - i)
          case measure => omega
          case rel => exact ⟨kp, L5, y :: L4, by first | rfl | go_num | (congr 1; omega), by omega, by omega, by omega, by rw [HJ2.out, HY.out.1]; simp, HY.out.2, by have := S3.out; rw [GS.out] at this; exact this⟩
        · have hlkz : ¬ (i : Int) < (k : Int) := by omega
          go_wp2
          try simp only [Exit.inBlock, Exit.then]
          refine bodyPost_ret (results_none rfl _ _ _) rfl ?_
          obtain ⟨q1, q2, q3⟩ := HJ.out
          obtain ⟨k1, k2, k3, k4, k5⟩ := HL.out
          obtain ⟨r1, r2, r3, r4⟩ := HR.out
          have h4 : L3 = [] := List.length_eq_zero_iff.1 (by omega)
          rw [h4, List.nil_append] at q1
          rw [h4, ← q1] at q3
          obtain ⟨p1, p2⟩ := put_one HOD.out (r1 ▸ k5) r4 r3
          exact ⟨rfl, L1 ++ x :: L2, p1, by rw [r1]; exact p2, by simpa using q3⟩
end Stb
end Go.Proofs.YtjceppinfjbegaaGreatDoor

