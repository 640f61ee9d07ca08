import Derived.Test.YtjceppinfjbegaaGreatDoorStbD
import Derived.Deep.Cut
import Derived.Deep.DeepCutAuto
set_option linter.unusedSimpArgs false
set_option linter.unusedVariables false
namespace Go.Proofs.YtjceppinfjbegaaGreatDoor
namespace Stb
open Go.Shelf Go.RowKit Go.Lib Go.Sort
variable {α : Type} [Inhabited α]

set_option maxHeartbeats 16000000 in
set_option maxRecDepth 1000000 in
/-- Two parts in a row, cut and put together again. -/
theorem sym_gt (enc : α → Value) (cf : α → α → Int) (g : Nat) (cb : Array Value) (blk off cap a m b N : Nat) (P L R' S : List α) (d0 : Array α) (w0 w : World) (eg : ∀ args w, (callFunc g args).run Tryz.prog w = .ok (.enter g args) w) (hcmp : CmpLays1 Tryz.prog g cb enc cf blk off d0.size w0) (ho : Ord (ltOf cf)) (R : Row1 enc w0 blk off d0) (hN : d0.size = N) (hsz : N < 4611686018427387904) (hlen : (P ++ (L ++ (R' ++ S))).length = N) (ha : P.length = a) (hm : m = a + L.length) (hb : b = m + R'.length) (h2 : 2 ≤ L.length) (h3 : 2 ≤ R'.length) (sL : Sorted (ltOf cf) L) (sR : Sorted (ltOf cf) R') (mid : Nat) (hmid : mid = (a + b) / 2) (hcase : mid < m)
    (IH : ∀ (a' m' b' : Nat) (P' L' Q' S' : List α) (W : World), P'.length = a' → m' = a' + L'.length → b' = m' + Q'.length → 0 < L'.length → 0 < Q'.length → L'.length + Q'.length < L.length + R'.length → (P' ++ (L' ++ (Q' ++ S'))).length = N → Sorted (ltOf cf) L' → Sorted (ltOf cf) Q' → SW enc w0 blk off (P' ++ (L' ++ (Q' ++ S'))).toArray W → Calls Tryz.prog 172 #[.slice (some ⟨blk, off, none⟩) N cap, .int .i64 a', .int .i64 m', .int .i64 b', .func (.func g) #[] cb] W fun e w' => e = .returned (.tuple #[]) ∧ ∃ M, Sorted (ltOf cf) M ∧ Same (ltOf cf) (L' ++ Q') M ∧ SW enc w0 blk off (P' ++ (M ++ S')).toArray w')
    (S0 : SW enc w0 blk off (P ++ (L ++ (R' ++ S))).toArray w) :
    Calls Tryz.prog 172 #[.slice (some ⟨blk, off, none⟩) N cap, .int .i64 a, .int .i64 m, .int .i64 b, .func (.func g) #[] cb] w fun e w' => e = .returned (.tuple #[]) ∧ ∃ M, Sorted (ltOf cf) M ∧ Same (ltOf cf) (L ++ R') M ∧ SW enc w0 blk off (P ++ (M ++ S)).toArray w' := by
  have mixed : Tryz.prog.follows .mixedOrders = true := by kernel_rfl
  have hcl0 := R.hO.cells
  simp only [Value.cells] at hcl0
  have hst := R.hO.store Tryz.prog
  have HC : Aside _ := hcmp
  have HOD : Aside (Ord (ltOf cf)) := ho
  have HIH : Aside _ := IH
  have HRT : Aside (∀ (a' m' b' : Nat) (P' X Y S' : List α) (W : World), (P' ++ (X ++ (Y ++ S'))).length = N → P'.length = a' → X.length + a' = m' → Y.length + m' = b' → 0 < X.length → 0 < Y.length → SW enc w0 blk off (P' ++ (X ++ (Y ++ S'))).toArray W → Calls Tryz.prog 191 #[.slice (some ⟨blk, off, none⟩) N cap, .int .i64 a', .int .i64 m', .int .i64 b', .func (.func g) #[] cb] W fun e w' => e = .returned (.tuple #[]) ∧ SW enc w0 blk off (P' ++ (Y ++ (X ++ S'))).toArray w') :=
    fun a' m' b' P' X Y S' W h1 h2 h3 h4 h5 h6 h7 => rotate_any enc _ blk off cap a' m' b' N P' X Y S' d0 w0 W R hN h1 h2 h3 h4 h5 h6 hsz h7
  obtain ⟨l, hl⟩ : ∃ q, q = P ++ (L ++ (R' ++ S)) := ⟨_, rfl⟩
  have hll : l.toArray.size = N := by rw [hl]; simpa using hlen
  have HG : Aside (∀ k, k < N → l[k]? = some (l.toArray[k]!)) := fun k hk => arr_get l k (by simpa using (show k < l.toArray.size by omega))
  have hbN : b ≤ N := by have : P.length + (L.length + (R'.length + S.length)) = N := by simpa [Nat.add_comm, Nat.add_left_comm, Nat.add_assoc] using hlen
                         omega
  have ham : a + 2 ≤ m := by omega
  have hmb : m + 2 ≤ b := by omega
  have e1 : ¬ ((m : Int) - (a : Int) = 1) := by omega
  have e2 : ¬ ((b : Int) - (m : Int) = 1) := by omega
  have e1b : ((m : Int) - (a : Int) == 1) = false := by simp [e1]
  have e2b : ((b : Int) - (m : Int) == 1) = false := by simp [e2]
  have hm1 : 2 * mid ≤ a + b := by omega
  have hm2 : a + b ≤ 2 * mid + 1 := by omega
  have em : ((a : Int) + (b : Int)) / 2 = (mid : Int) := by omega
  obtain ⟨pp, hpp⟩ : ∃ q, q + 1 = mid + m := ⟨mid + m - 1, by omega⟩
  have ep : (mid : Int) + (m : Int) - 1 = (pp : Int) := by omega
  have hmz : ((a : Int) + (b : Int)) / 2 < (m : Int) := by omega
  have hmz' : (mid : Int) < (m : Int) := by omega
  obtain ⟨lo, hlo⟩ : ∃ q, q + b = mid + m := ⟨mid + m - b, by omega⟩
  have HS : Aside (SW enc w0 blk off l.toArray w) := by rw [hl]; exact S0
  have HL : Aside (l = P ++ (L ++ (R' ++ S)) ∧ P.length = a ∧ m = a + L.length ∧ b = m + R'.length ∧ (P ++ (L ++ (R' ++ S))).length = N ∧ Sorted (ltOf cf) L ∧ Sorted (ltOf cf) R' ∧ mid = (a + b) / 2) := ⟨hl, ha, hm, hb, hlen, sL, sR, hmid⟩
  clear S0 hcmp ho hl ha hm hb hlen sL sR h2 h3 IH hmid
  go_enter Tryz.func172, Tryz.ntmps172
  go_wp2
  try simp only [em, ep]
  go_loopg [20, 21] (b - a) (fun g1 vs vr wr => ∃ st r : Nat, vs = .int .i64 st ∧ vr = .int .i64 r ∧ lo ≤ st ∧ st ≤ r ∧ r ≤ mid ∧ r - st ≤ g1 ∧ Aside (SW enc w0 blk off l.toArray wr ∧ (st = lo ∨ ∀ x y, l[st - 1]? = some x → l[mid + m - st]? = some y → ltOf cf y x = false) ∧ (r = mid ∨ ∀ x y, l[r]? = some x → l[mid + m - 1 - r]? = some y → ltOf cf y x = true)))
  case atStart => exact ⟨lo, mid, by first | rfl | go_num | (congr 1; omega), by first | rfl | go_num | (congr 1; omega), Nat.le_refl _, by omega, Nat.le_refl _, by omega, ⟨HS.out, Or.inl rfl, Or.inl rfl⟩⟩
  case round =>
    clear HS
    obtain ⟨st, r, rfl, rfl, hls, hsr, hrh, hg, H⟩ := hrel
    by_cases hlt : st < r
    · as_aux_lemma =>
        have hltz : (st : Int) < (r : Int) := by omega
        obtain ⟨c, hh⟩ : ∃ q, q = (st + r) / 2 := ⟨_, rfl⟩
        have hih : st ≤ c := by omega
        have hhj : c < r := by omega
        have ecc : ((st : Int) + (r : Int)) / 2 = (c : Int) := by omega
        obtain ⟨pq, hq⟩ : ∃ q, q + (c + 1) = mid + m := ⟨mid + m - (c + 1), by omega⟩
        have epq : (pp : Int) - (c : Int) = (pq : Int) := by omega
        have rpq : IntKind.i64.wrap ((pp : Int) - (c : Int)) = (pq : Int) := by rw [IntKind.wrap_i64]; omega
        obtain ⟨x, gy⟩ : ∃ y, l.toArray[c]! = y := ⟨_, rfl⟩
        obtain ⟨y, gx⟩ : ∃ y, l.toArray[pq]! = y := ⟨_, rfl⟩
        have GC : Aside (l[c]? = some x) := by have := HG.out c (by omega); rw [gy] at this; exact this
        have GQ : Aside (l[pq]? = some y) := by have := HG.out pq (by omega); rw [gx] at this; exact this
        have SJ : Aside (SW enc w0 blk off l.toArray wr) := H.out.1
        have mid' : Aside ((st = lo ∨ ∀ x y, l[st - 1]? = some x → l[mid + m - st]? = some y → ltOf cf y x = false) ∧ (r = mid ∨ ∀ x y, l[r]? = some x → l[mid + m - 1 - r]? = some y → ltOf cf y x = true)) := H.out.2
        clear H hh
        obtain ⟨iN, hiN⟩ : ∃ q, q = pq := ⟨_, rfl⟩
        obtain ⟨jN, hjN⟩ : ∃ q, q = c := ⟨_, rfl⟩
        have ea : ((pq : Int)).toNat = iN := by omega
        have pa : (0 : Int) ≤ (pq : Int) := by omega
        have ba : (pq : Int) < (N : Int) := by omega
        have ra : IntKind.i64.wrap ((pq : Int)) = (pq : Int) := by rw [IntKind.wrap_i64]; omega
        have ec : ((c : Int)).toNat = jN := by omega
        have pc : (0 : Int) ≤ (c : Int) := by omega
        have bc : (c : Int) < (N : Int) := by omega
        have rc : IntKind.i64.wrap ((c : Int)) = (c : Int) := by rw [IntKind.wrap_i64]; omega
        have la := SJ.out.cl R (by omega) pq (by omega)
        have lb := SJ.out.cl R (by omega) c (by omega)
        rw [gx, ← hiN] at la
        rw [gy, ← hjN] at lb
        have hc := SJ.out.cmp HC.out (by omega) y x
        clear hiN hjN
        cases hlv : ltOf cf y x with
        | true =>
          have hv : cf y x < 0 := of_decide_eq_true hlv
          have hd : decide (cf y x < 0) = true := decide_eq_true hv
          have HLV : Aside (ltOf cf y x = true) := hlv
          clear hlv
          go_wp2_with fail
          try simp only [em, ep, ecc]
          go_quiet_grown (first | (go_at_fn g; refine Calls.grown_of (hc _ _)))
          have S2 : Aside (SW enc w0 blk off l.toArray (grow (wr.drewN nq) osq)) := SJ.out.grown nq osq
          clear la lb hc SJ
          generalize grow (wr.drewN nq) osq = w2 at S2 ⊢
          clear nq osq
          clear ea ec
          go_wp2
          go_roundg (c - st)
          case measure => omega
          case rel => exact ⟨st, c, rfl, by first | rfl | go_num | (congr 1; omega), hls, hih, by omega, Nat.le_refl _, ⟨S2.out, mid'.out.1, Or.inr (fun x' y' hx hy => by rw [GC.out] at hx; rw [show mid + m - 1 - c = pq by omega, GQ.out] at hy; cases hx; cases hy; exact HLV.out)⟩⟩
        | false =>
          have hv : ¬ cf y x < 0 := of_decide_eq_false hlv
          have hd : decide (cf y x < 0) = false := decide_eq_false hv
          have HLV : Aside (ltOf cf y x = false) := hlv
          clear hlv
          go_wp2_with fail
          try simp only [em, ep, ecc]
          go_quiet_grown (first | (go_at_fn g; refine Calls.grown_of (hc _ _)))
          have S2 : Aside (SW enc w0 blk off l.toArray (grow (wr.drewN nq) osq)) := SJ.out.grown nq osq
          clear la lb hc SJ
          generalize grow (wr.drewN nq) osq = w2 at S2 ⊢
          clear nq osq
          clear ea ec
          go_wp2
          go_roundg (r - (c + 1))
          case measure => omega
          case rel => exact ⟨c + 1, r, by first | go_num | (congr 1; omega), rfl, by omega, by omega, hrh, Nat.le_refl _, ⟨S2.out, Or.inr (fun x' y' hx hy => by rw [Nat.add_sub_cancel, GC.out] at hx; rw [show mid + m - (c + 1) = pq by omega, GQ.out] at hy; cases hx; cases hy; exact HLV.out), mid'.out.2⟩⟩
    · have hij' : st = r := by omega
      subst hij'
      have hltz : ¬ (st : Int) < (st : Int) := by omega
      have hsa : a ≤ st := by omega
      have hsm : st ≤ m := by omega
      have hsd : st ≤ mid := by omega
      obtain ⟨en, hen⟩ : ∃ q, q + st = mid + m := ⟨mid + m - st, by omega⟩
      have hme : m ≤ en := by omega
      have heb : en ≤ b := by omega
      have hde : mid ≤ en := by omega
      have een : (mid : Int) + (m : Int) - (st : Int) = (en : Int) := by omega
      obtain ⟨L1, L2, R1, R2, HR⟩ : ∃ L1 L2 R1 R2, Aside (L = L1 ++ L2 ∧ R' = R1 ++ R2 ∧ L1.length = st - a ∧ R1.length = mid - st ∧ (∀ x ∈ L2, ∀ y ∈ R1, ltOf cf y x = true) ∧ ∀ x ∈ L1, ∀ y ∈ R2, ltOf cf y x = false) := by
        obtain ⟨k1, k2, k3, k4, k5, k6, k7, k8⟩ := HL.out
        obtain ⟨q1, q2, q3⟩ := H.out
        rw [k1] at q2 q3
        refine sym_find (P := P) (L := L) (R := R') (S := S) (a := a) (m := m) (b := b) (mid := mid) (start := st) HOD.out k2 (by omega) (by omega) (by omega) (by omega) k8 k6 k7 ?_ ?_ ?_ ?_
        · rw [if_pos hcase]; omega
        · rw [if_pos hcase]; omega
        · rw [if_pos hcase]; exact q2.imp (fun h => by omega) id
        · rw [if_pos hcase]; exact q3.imp (fun h => by omega) id
      have HLN : Aside (L2.length = m - st ∧ R2.length = b - en ∧ (P ++ (L1 ++ (L2 ++ (R1 ++ (R2 ++ S))))).length = N ∧ P.length + (L1.length + (L2.length + (R1.length + (R2.length + S.length)))) = N) := by
        obtain ⟨k1, k2, k3, k4, k5, k6, k7, k8⟩ := HL.out
        obtain ⟨r1, r2, r3, r4, r5, r6⟩ := HR.out
        rw [r1, List.length_append] at k3
        rw [r2, List.length_append] at k4
        rw [r1, r2] at k5
        exact ⟨by omega, by omega, by simpa using k5, by simpa [Nat.add_assoc] using k5⟩
      have sj : SW enc w0 blk off (P ++ (L1 ++ (L2 ++ (R1 ++ (R2 ++ S))))).toArray wr := by have := H.out.1; rw [HL.out.1, HR.out.1, HR.out.2.1] at this; simpa using this
      have SJ : Aside (SW enc w0 blk off (P ++ (L1 ++ (L2 ++ (R1 ++ (R2 ++ S))))).toArray wr) := sj
      clear sj
      clear H
      obtain ⟨bt, hbt⟩ : ∃ q : Bool, q = decide (st < m ∧ m < en) := ⟨_, rfl⟩
      have HBT : Aside (bt = decide (st < m ∧ m < en)) := hbt
      clear hbt
      go_upto_region 39 with fail
      go_cut [185] (fun v wx => v = .bool bt ∧ wx = wr)
      case first =>
        as_aux_lemma =>
          by_cases hz1 : st < m
          · have z1 : (st : Int) < (m : Int) := by omega
            by_cases hz2 : m < en
            · have z2 : (m : Int) < (en : Int) := by omega
              have z2a : (m : Int) < (mid : Int) + (m : Int) - (st : Int) := by omega
              have hb' : bt = true := by rw [HBT.out]; exact decide_eq_true ⟨hz1, hz2⟩
              subst hb'
              go_wp2
              go_meet
              exact ⟨rfl, rfl⟩
            · have z2 : ¬ (m : Int) < (en : Int) := by omega
              have z2a : ¬ (m : Int) < (mid : Int) + (m : Int) - (st : Int) := by omega
              have hb' : bt = false := by rw [HBT.out]; exact decide_eq_false (fun h => hz2 h.2)
              subst hb'
              go_wp2
              go_meet
              exact ⟨rfl, rfl⟩
          · have z1 : ¬ (st : Int) < (m : Int) := by omega
            have hb' : bt = false := by rw [HBT.out]; exact decide_eq_false (fun h => hz1 h.1)
            subst hb'
            go_wp2
            go_meet
            exact ⟨rfl, rfl⟩
      case rest =>
      obtain ⟨rfl, rfl⟩ := hcut
      go_upto_if 185 with fail
      go_cut [] (fun wx => Aside (SW enc w0 blk off (P ++ (L1 ++ (R1 ++ (L2 ++ (R2 ++ S))))).toArray wx))
      case first =>
        as_aux_lemma =>
          cases bt
          · have hn : L2 = [] ∨ R1 = [] := by
              have h := of_decide_eq_false HBT.out.symm
              by_cases h1 : st < m
              · exact Or.inr (List.length_eq_zero_iff.1 (by rw [HR.out.2.2.2.1]; have : ¬ m < en := fun h2 => h ⟨h1, h2⟩; omega))
              · exact Or.inl (List.length_eq_zero_iff.1 (by rw [HLN.out.1]; omega))
            go_wp2
            go_meet
            have := SJ.out
            show SW enc w0 blk off _ _
            rcases hn with hn | hn
            · rw [hn] at this ⊢
              simpa using this
            · rw [hn] at this ⊢
              simpa using this
          · have hz := of_decide_eq_true HBT.out.symm
            go_wp2_with (go_at_call 191; fail)
            try simp only [em, een]
            refine (HRT.out st m en (P ++ L1) L2 R1 (R2 ++ S) wc (by simpa using HLN.out.2.2.1) (by rw [List.length_append, HL.out.2.1, HR.out.2.2.1]; omega) (by rw [HLN.out.1]; omega) (by rw [HR.out.2.2.2.1]; omega) (by rw [HLN.out.1]; omega) (by rw [HR.out.2.2.2.1]; omega) (by simpa using SJ.out)).mono ?_
            rintro e w2 ⟨rfl, hS⟩
            have HF : Aside _ := hS
            clear hS SJ
            go_wp2
            go_meet
            have := HF.out
            simp only [List.append_assoc] at this
            exact this
      case rest =>
        have SK : Aside (SW enc w0 blk off (P ++ (L1 ++ (R1 ++ (L2 ++ (R2 ++ S))))).toArray wc) := hcut
        clear hcut SJ
        have HSO : Aside (Sorted (ltOf cf) L1 ∧ Sorted (ltOf cf) L2 ∧ Sorted (ltOf cf) R1 ∧ Sorted (ltOf cf) R2) := by
          obtain ⟨k1, k2, k3, k4, k5, k6, k7, k8⟩ := HL.out
          rw [HR.out.1] at k6
          rw [HR.out.2.1] at k7
          exact ⟨(Sorted.app.1 k6).1, (Sorted.app.1 k6).2.1, (Sorted.app.1 k7).1, (Sorted.app.1 k7).2.1⟩
        clear HBT
        obtain ⟨bu, hbu⟩ : ∃ q : Bool, q = decide (a < st ∧ st < mid) := ⟨_, rfl⟩
        have HBU : Aside (bu = decide (a < st ∧ st < mid)) := hbu
        clear hbu
        obtain ⟨wk, hwk⟩ : ∃ q, q = wc := ⟨_, rfl⟩
        rw [← hwk] at SK ⊢
        clear hwk
        go_upto_region 41 with fail
        go_cut [199] (fun v wx => v = .bool bu ∧ wx = wk)
        case first =>
          as_aux_lemma =>
            by_cases hz1 : a < st
            · have z1 : (a : Int) < (st : Int) := by omega
              by_cases hz2 : st < mid
              · have z2 : (st : Int) < (mid : Int) := by omega
                have hb' : bu = true := by rw [HBU.out]; exact decide_eq_true ⟨hz1, hz2⟩
                subst hb'
                go_wp2
                go_meet
                exact ⟨rfl, rfl⟩
              · have z2 : ¬ (st : Int) < (mid : Int) := by omega
                have hb' : bu = false := by rw [HBU.out]; exact decide_eq_false (fun h => hz2 h.2)
                subst hb'
                go_wp2
                go_meet
                exact ⟨rfl, rfl⟩
            · have z1 : ¬ (a : Int) < (st : Int) := by omega
              have hb' : bu = false := by rw [HBU.out]; exact decide_eq_false (fun h => hz1 h.1)
              subst hb'
              go_wp2
              go_meet
              exact ⟨rfl, rfl⟩
        case rest =>
        obtain ⟨rfl, rfl⟩ := hcut
        go_upto_if 199 with fail
        go_cut [] (fun wx => Aside (∃ M1, Sorted (ltOf cf) M1 ∧ Same (ltOf cf) (L1 ++ R1) M1 ∧ SW enc w0 blk off (P ++ (M1 ++ (L2 ++ (R2 ++ S)))).toArray wx))
        case first =>
          as_aux_lemma =>
            cases bu
            · have hn : L1 = [] ∨ R1 = [] := by
                have h := of_decide_eq_false HBU.out.symm
                by_cases h1 : a < st
                · exact Or.inr (List.length_eq_zero_iff.1 (by rw [HR.out.2.2.2.1]; have : ¬ st < mid := fun h2 => h ⟨h1, h2⟩; omega))
                · exact Or.inl (List.length_eq_zero_iff.1 (by rw [HR.out.2.2.1]; omega))
              go_wp2
              go_meet
              have := SK.out
              rcases hn with hn | hn
              · exact ⟨R1, HSO.out.2.2.1, by rw [hn]; simpa using Same.refl _ _, by rw [hn] at this; simpa using this⟩
              · exact ⟨L1, HSO.out.1, by rw [hn]; simpa using Same.refl _ _, by rw [hn] at this; simpa using this⟩
            · have hz := of_decide_eq_true HBU.out.symm
              go_wp2_with (go_at_call 172; fail)
              try simp only [em, een]
              refine (HIH.out a st mid P L1 R1 (L2 ++ (R2 ++ S)) wc HL.out.2.1 (by rw [HR.out.2.2.1]; omega) (by rw [HR.out.2.2.2.1]; omega) (by rw [HR.out.2.2.1]; omega) (by rw [HR.out.2.2.2.1]; omega) ?_ ?_ HSO.out.1 HSO.out.2.2.1 SK.out).mono ?_
              · have h1 := HL.out.2.2.1
                have h2 := HL.out.2.2.2.1
                rw [HR.out.2.2.1, HR.out.2.2.2.1]
                omega
              · have := HLN.out.2.2.2
                simp only [List.length_append]
                omega
              rintro e w2 ⟨rfl, hS⟩
              have HF : Aside _ := hS
              clear hS SK
              go_wp2
              go_meet
              exact HF
        case rest =>
          as_aux_lemma =>
            obtain ⟨M1, HM⟩ : ∃ M1, Aside (Sorted (ltOf cf) M1 ∧ Same (ltOf cf) (L1 ++ R1) M1 ∧ M1.length = mid - a ∧ SW enc w0 blk off (P ++ (M1 ++ (L2 ++ (R2 ++ S)))).toArray wc) := by
              obtain ⟨M1, q1, q2, q3⟩ := (show Aside _ from hcut).out
              exact ⟨M1, q1, q2, by rw [← q2.len HOD.out, List.length_append, HR.out.2.2.1, HR.out.2.2.2.1]; omega, q3⟩
            clear hcut SK
            have FIN : Aside (∀ (M2 : List α) (V : World), Sorted (ltOf cf) M2 → Same (ltOf cf) (L2 ++ R2) M2 → SW enc w0 blk off (P ++ (M1 ++ (M2 ++ S))).toArray V → ∃ M, Sorted (ltOf cf) M ∧ Same (ltOf cf) (L ++ R') M ∧ SW enc w0 blk off (P ++ (M ++ S)).toArray V) := by
              intro M2 V h1 h2 h3
              obtain ⟨k1, k2, k3, k4, k5, k6, k7, k8⟩ := HL.out
              obtain ⟨r1, r2, r3, r4, r5, r6⟩ := HR.out
              obtain ⟨m1, m2, m3, m4⟩ := HM.out
              obtain ⟨p1, p2⟩ := sym_cut HOD.out (r1 ▸ k6) (r2 ▸ k7) r5 r6 m1 m2 h1 h2
              exact ⟨M1 ++ M2, p1, by rw [r1, r2]; exact p2, by simpa using h3⟩
            have SL : Aside (SW enc w0 blk off (P ++ (M1 ++ (L2 ++ (R2 ++ S)))).toArray wc) := HM.out.2.2.2
            by_cases hz1 : mid < en
            · have z1 : (mid : Int) < (en : Int) := by omega
              have z1a : (mid : Int) < (mid : Int) + (m : Int) - (st : Int) := by omega
              have z1b : ((a : Int) + (b : Int)) / 2 < ((a : Int) + (b : Int)) / 2 + (m : Int) - (st : Int) := by omega
              by_cases hz2 : en < b
              · have z2 : (en : Int) < (b : Int) := by omega
                have z2a : (mid : Int) + (m : Int) - (st : Int) < (b : Int) := by omega
                have z2b : ((a : Int) + (b : Int)) / 2 + (m : Int) - (st : Int) < (b : Int) := by omega
                go_wp2_with (go_at_call 172; fail)
                try simp only [em, een]
                refine (HIH.out mid en b (P ++ M1) L2 R2 S wc (by rw [List.length_append, HL.out.2.1, HM.out.2.2.1]; omega) (by rw [HLN.out.1]; omega) (by rw [HLN.out.2.1]; omega) (by rw [HLN.out.1]; omega) (by rw [HLN.out.2.1]; omega) ?_ ?_ HSO.out.2.1 HSO.out.2.2.2 (by simpa using SL.out)).mono ?_
                · have h1 := HL.out.2.2.1
                  have h2 := HL.out.2.2.2.1
                  rw [HLN.out.1, HLN.out.2.1]
                  omega
                · have := HLN.out.2.2.2
                  have h3 := HM.out.2.2.1
                  have h4 := HR.out.2.2.1
                  have h5 := HR.out.2.2.2.1
                  simp only [List.length_append]
                  omega
                rintro e w2 ⟨rfl, hS⟩
                have HF : Aside _ := hS
                clear hS SL
                go_wp2
                go_end0
                obtain ⟨M2, q1, q2, q3⟩ := HF.out
                exact ⟨rfl, FIN.out M2 _ q1 q2 (by simpa using q3)⟩
              · have z2 : ¬ (en : Int) < (b : Int) := by omega
                have z2a : ¬ (mid : Int) + (m : Int) - (st : Int) < (b : Int) := by omega
                have z2b : ¬ ((a : Int) + (b : Int)) / 2 + (m : Int) - (st : Int) < (b : Int) := by omega
                have hn : R2 = [] := List.length_eq_zero_iff.1 (by rw [HLN.out.2.1]; omega)
                go_wp2
                go_end0
                exact ⟨rfl, FIN.out L2 _ HSO.out.2.1 (by rw [hn]; simpa using Same.refl _ _) (by have := SL.out; rw [hn] at this; simpa using this)⟩
            · have z1 : ¬ (mid : Int) < (en : Int) := by omega
              have z1a : ¬ (mid : Int) < (mid : Int) + (m : Int) - (st : Int) := by omega
              have z1b : ¬ ((a : Int) + (b : Int)) / 2 < ((a : Int) + (b : Int)) / 2 + (m : Int) - (st : Int) := by omega
              have hn : L2 = [] := List.length_eq_zero_iff.1 (by rw [HLN.out.1]; omega)
              go_wp2
              go_end0
              exact ⟨rfl, FIN.out R2 _ HSO.out.2.2.2 (by rw [hn]; simpa using Same.refl _ _) (by have := SL.out; rw [hn] at this; simpa using this)⟩
end Stb
end Go.Proofs.YtjceppinfjbegaaGreatDoor

