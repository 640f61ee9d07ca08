import Derived.Test.YtjceppinfjbegaaGreatDoorStbF
import Derived.Test.YtjceppinfjbegaaGreatDoorStbG
import Derived.Test.YtjceppinfjbegaaGreatDoorStbH
set_option linter.unusedSimpArgs false
set_option linter.unusedVariables false
namespace Go.Proofs.YtjceppinfjbegaaGreatDoor
namespace Stb
open Go.Shelf Go.RowKit Go.Lib Go.Sort
variable {α : Type} [Inhabited α]

/-- symMerge: two parts in a row, one behind the other, are one part in a row, equals as they were. -/
theorem sym_any (enc : α → Value) (cf : α → α → Int) (g : Nat) (cb : Array Value) (blk off cap N : Nat) (d0 : Array α) (w0 : World) (eg : ∀ args w, (callFunc g args).run Tryz.prog w = .ok (.enter g args) w) (hcmp : CmpLays1 Tryz.prog g cb enc cf blk off d0.size w0) (ho : Ord (ltOf cf)) (R : Row1 enc w0 blk off d0) (hN : d0.size = N) (hsz : N < 4611686018427387904) :
    ∀ (k a m b : Nat) (P L Q S : List α) (w : World), P.length = a → m = a + L.length → b = m + Q.length → 0 < L.length → 0 < Q.length → L.length + Q.length ≤ k → (P ++ (L ++ (Q ++ S))).length = N → Sorted (ltOf cf) L → Sorted (ltOf cf) Q → SW enc w0 blk off (P ++ (L ++ (Q ++ S))).toArray w →
    Calls Tryz.prog 172 #[.slice (some ⟨blk, off, none⟩) N cap, .int .i64 a, .int .i64 m, .int .i64 b, .func (.func g) #[] cb] w fun e w' => e = .returned (.tuple #[]) ∧ ∃ M, Sorted (ltOf cf) M ∧ Same (ltOf cf) (L ++ Q) M ∧ SW enc w0 blk off (P ++ (M ++ S)).toArray w'
  | 0, _, _, _, _, _, _, _, _, _, _, _, h, _, hk, _, _, _, _ => by omega
  | k + 1, a, m, b, P, L, Q, S, w, ha, hm, hb, hL, hQ, hk, hlen, sL, sQ, S0 => by
    by_cases h1 : L.length = 1
    · obtain ⟨x, rfl⟩ := List.length_eq_one_iff.1 h1
      exact sym_left enc cf g cb blk off cap a m b N x P Q S d0 w0 w eg hcmp ho R hN hsz hlen ha (by simpa using hm) hb sQ S0
    · by_cases h2 : Q.length = 1
      · obtain ⟨x, rfl⟩ := List.length_eq_one_iff.1 h2
        exact sym_right enc cf g cb blk off cap a m b N x P L S d0 w0 w eg hcmp ho R hN hsz hlen ha hm (by simpa using hb) (by omega) sL S0
      · have IH := fun (a' m' b' : Nat) (P' L' Q' S' : List α) (W : World) (q1 : P'.length = a') (q2 : m' = a' + L'.length) (q3 : b' = m' + Q'.length) (q4 : 0 < L'.length) (q5 : 0 < Q'.length) (q6 : L'.length + Q'.length < L.length + Q.length) (q7 : (P' ++ (L' ++ (Q' ++ S'))).length = N) (q8 : Sorted (ltOf cf) L') (q9 : Sorted (ltOf cf) Q') (q10 : SW enc w0 blk off (P' ++ (L' ++ (Q' ++ S'))).toArray W) => sym_any enc cf g cb blk off cap N d0 w0 eg hcmp ho R hN hsz k a' m' b' P' L' Q' S' W q1 q2 q3 q4 q5 (by omega) q7 q8 q9 q10
        by_cases hc : (a + b) / 2 < m
        · exact sym_gt enc cf g cb blk off cap a m b N P L Q S d0 w0 w eg hcmp ho R hN hsz hlen ha hm hb (by omega) (by omega) sL sQ ((a + b) / 2) rfl hc IH S0
        · exact sym_le enc cf g cb blk off cap a m b N P L Q S d0 w0 w eg hcmp ho R hN hsz hlen ha hm hb (by omega) (by omega) sL sQ ((a + b) / 2) rfl hc IH S0

omit [Inhabited α] in
/-- Parts of one length, each in a row; the last one may be shorter. -/
inductive Blk (lt : α → α → Bool) (s : Nat) : List α → Prop
  | last (M : List α) : M.length ≤ s → Sorted lt M → Blk lt s M
  | cons (M D : List α) : M.length = s → Sorted lt M → Blk lt s D → Blk lt s (M ++ D)
/-- .. none is shorter. -/
inductive Full (lt : α → α → Bool) (s : Nat) : List α → Prop
  | nil : Full lt s []
  | snoc (D M : List α) : Full lt s D → M.length = s → Sorted lt M → Full lt s (D ++ M)
omit [Inhabited α] in
theorem Full.blk {lt : α → α → Bool} {s : Nat} {D : List α} (h : Full lt s D) : ∀ {E : List α}, Blk lt s E → Blk lt s (D ++ E) := by
  induction h with
  | nil => intro E hE; simpa using hE
  | snoc D M _ h1 h2 ih => intro E hE; rw [List.append_assoc]; exact ih (Blk.cons M E h1 h2 hE)
omit [Inhabited α] in
theorem Blk.whole {lt : α → α → Bool} {s : Nat} {E : List α} (h : Blk lt s E) (hl : E.length ≤ s) : Sorted lt E := by
  cases h with
  | last _ _ h2 => exact h2
  | cons M D h1 h2 h3 =>
    have : D = [] := List.length_eq_zero_iff.1 (by rw [List.length_append] at hl; omega)
    subst this
    simpa using h2
omit [Inhabited α] in
theorem Blk.two {lt : α → α → Bool} {s : Nat} {E : List α} (h : Blk lt s E) (hs : 0 < s) (hl : 2 * s ≤ E.length) : ∃ L Q E', E = L ++ (Q ++ E') ∧ L.length = s ∧ Q.length = s ∧ Sorted lt L ∧ Sorted lt Q ∧ Blk lt s E' := by
  cases h with
  | last _ h1 h2 => omega
  | cons M D h1 h2 h3 =>
    rw [List.length_append] at hl
    cases h3 with
    | last _ k1 k2 => exact ⟨M, D, [], by simp, h1, by omega, h2, k2, Blk.last _ (by simp) (sorted_short _ _ (by simp))⟩
    | cons Q E' k1 k2 k3 => exact ⟨M, Q, E', rfl, h1, k1, h2, k2, k3⟩
omit [Inhabited α] in
theorem Blk.tail {lt : α → α → Bool} {s : Nat} {E : List α} (h : Blk lt s E) (hl : s < E.length) (hl' : E.length < 2 * s) : ∃ L Q, E = L ++ Q ∧ L.length = s ∧ 0 < Q.length ∧ Sorted lt L ∧ Sorted lt Q := by
  cases h with
  | last _ h1 h2 => omega
  | cons M D h1 h2 h3 =>
    rw [List.length_append] at hl hl'
    exact ⟨M, D, rfl, h1, by omega, h2, h3.whole (by omega)⟩
end Stb
end Go.Proofs.YtjceppinfjbegaaGreatDoor

namespace Go.Proofs.YtjceppinfjbegaaGreatDoor
namespace Stb
open Go.Shelf Go.RowKit Go.Lib Go.Sort
variable {α : Type} [Inhabited α]

set_option maxHeartbeats 16000000 in
set_option maxRecDepth 1000000 in
/-- The stable sort of a row. -/
theorem stable_any (enc : α → Value) (cf : α → α → Int) (g : Nat) (cb : Array Value) (blk off cap N : Nat) (l0 : List α) (w0 : World) (eg : ∀ args w, (callFunc g args).run Tryz.prog w = .ok (.enter g args) w) (hcmp : CmpLays1 Tryz.prog g cb enc cf blk off l0.toArray.size w0) (ho : Ord (ltOf cf)) (R : Row1 enc w0 blk off l0.toArray) (hN : l0.length = N) (hsz : N < 1152921504606846976) :
    Calls Tryz.prog 153 #[.slice (some ⟨blk, off, none⟩) N cap, .int .i64 N, .func (.func g) #[] cb] w0 fun e w' => e = .returned (.tuple #[]) ∧ ∃ l, Sorted (ltOf cf) l ∧ Same (ltOf cf) l0 l ∧ SW enc w0 blk off l.toArray w' := by
  have hN' : l0.toArray.size = N := by simpa using hN
  have HINS : Aside (∀ (a b : Nat) (P M S : List α) (W : World), (P ++ (M ++ S)).length = N → P.length = a → b = a + M.length → SW enc w0 blk off (P ++ (M ++ S)).toArray W → Calls Tryz.prog 171 #[.slice (some ⟨blk, off, none⟩) N cap, .int .i64 a, .int .i64 b, .func (.func g) #[] cb] W fun e w' => e = .returned (.tuple #[]) ∧ ∃ M', Sorted (ltOf cf) M' ∧ Same (ltOf cf) M M' ∧ SW enc w0 blk off (P ++ (M' ++ S)).toArray w') :=
    fun a b P M S W h1 h2 h3 h4 => insertion_any enc cf g cb blk off cap a b N P M S l0.toArray w0 W eg hcmp ho R hN' h1 h2 h3 (by omega) h4
  have HSYM : Aside (∀ (a m b : Nat) (P L Q S : List α) (W : World), P.length = a → m = a + L.length → b = m + Q.length → 0 < L.length → 0 < Q.length → (P ++ (L ++ (Q ++ S))).length = N → Sorted (ltOf cf) L → Sorted (ltOf cf) Q → SW enc w0 blk off (P ++ (L ++ (Q ++ S))).toArray W → Calls Tryz.prog 172 #[.slice (some ⟨blk, off, none⟩) N cap, .int .i64 a, .int .i64 m, .int .i64 b, .func (.func g) #[] cb] W fun e w' => e = .returned (.tuple #[]) ∧ ∃ M, Sorted (ltOf cf) M ∧ Same (ltOf cf) (L ++ Q) M ∧ SW enc w0 blk off (P ++ (M ++ S)).toArray w') :=
    fun a m b P L Q S W h1 h2 h3 h4 h5 h6 h7 h8 h9 => sym_any enc cf g cb blk off cap N l0.toArray w0 eg hcmp ho R hN' (by omega) _ a m b P L Q S W h1 h2 h3 h4 h5 (Nat.le_refl _) h6 h7 h8 h9
  have HS : Aside (SW enc w0 blk off l0.toArray w0 ∧ l0.length = N) := ⟨SW.start R.hH, hN⟩
  have HOD : Aside (Ord (ltOf cf)) := ho
  clear hcmp ho R hN hN'
  go_enter Tryz.func153, Tryz.ntmps153
  go_wp2
  go_loopg [7, 8] N (fun g1 va vb wr => ∃ (a : Nat) (D E : List α), va = .int .i64 a ∧ vb = .int .i64 ((a : Int) + 20) ∧ a ≤ N ∧ N - a ≤ g1 ∧ Aside (Full (ltOf cf) 20 D ∧ D.length = a ∧ Same (ltOf cf) l0 (D ++ E) ∧ (D ++ E).length = N ∧ SW enc w0 blk off (D ++ E).toArray wr))
  case atStart => exact ⟨0, [], l0, rfl, by first | rfl | go_num, Nat.zero_le _, by omega, Full.nil, rfl, Same.refl _ _, HS.out.2, by simpa using HS.out.1⟩
  case round =>
    clear HS
    obtain ⟨a, D, E, rfl, rfl, haN, hg, H⟩ := hrel
    by_cases hlt : a + 20 ≤ N
    · have hltz : (a : Int) + 20 ≤ (N : Int) := by omega
      obtain ⟨M, E', HE⟩ : ∃ M E', Aside (E = M ++ E' ∧ M.length = 20) := split_at E 20 (by have := H.out.2.1; have h4 := H.out.2.2.2.1; rw [List.length_append] at h4; omega)
      go_wp2_with (go_at_call 171; fail)
      rw [show (a : Int) + 20 = ((a + 20 : Nat) : Int) by omega]
      refine (HINS.out a (a + 20) D M E' wr (by have := H.out.2.2.2.1; rw [HE.out.1] at this; exact this) H.out.2.1 (by rw [HE.out.2]) (by have := H.out.2.2.2.2; rw [HE.out.1] at this; exact this)).mono ?_
      rintro e w2 ⟨rfl, M', q1, q2, q3⟩
      have HF : Aside (Full (ltOf cf) 20 (D ++ M') ∧ (D ++ M').length = a + 20 ∧ Same (ltOf cf) l0 ((D ++ M') ++ E') ∧ ((D ++ M') ++ E').length = N ∧ SW enc w0 blk off ((D ++ M') ++ E').toArray w2) := by
        obtain ⟨k1, k2, k3, k4, k5⟩ := H.out
        have hml : M'.length = 20 := by rw [← q2.len HOD.out]; exact HE.out.2
        rw [HE.out.1] at k3 k4
        refine ⟨Full.snoc D M' k1 hml q1, by rw [List.length_append, k2, hml], ?_, ?_, by simpa using q3⟩
        · rw [List.append_assoc]
          exact k3.trans ((Same.refl _ D).app (q2.app (Same.refl _ E')))
        · simp only [List.length_append] at k4 ⊢
          rw [hml, ← HE.out.2]
          omega
      clear q1 q2 q3 H
      go_wp2
      go_roundg (N - (a + 20))
      case measure => omega
      case rel => exact ⟨a + 20, D ++ M', E', by first | go_num | (congr 1; omega), by first | go_num | (congr 1; omega), by omega, Nat.le_refl _, HF⟩
    · have hltz : ¬ ((a : Int) + 20 ≤ (N : Int)) := by omega
      go_wp2_with (go_at_call 171; fail)
      refine (HINS.out a N D E [] wr (by simpa using H.out.2.2.2.1) H.out.2.1 (by have h4 := H.out.2.2.2.1; rw [List.length_append, H.out.2.1] at h4; omega) (by simpa using H.out.2.2.2.2)).mono ?_
      rintro e w2 ⟨rfl, E', q1, q2, q3⟩
      have HF : Aside (∃ l, Blk (ltOf cf) 20 l ∧ Same (ltOf cf) l0 l ∧ l.length = N ∧ SW enc w0 blk off l.toArray w2) := by
        obtain ⟨k1, k2, k3, k4, k5⟩ := H.out
        have hel : E'.length = E.length := (q2.len HOD.out).symm
        refine ⟨D ++ E', k1.blk (Blk.last E' (by rw [List.length_append] at k4; omega) q1), k3.trans ((Same.refl _ D).app q2), by rw [List.length_append] at k4 ⊢; omega, by simpa using q3⟩
      clear q1 q2 q3 H hltz hlt
      go_wp2
      go_loopg [6] N (fun g2 vb wr => ∃ (bs : Nat), vb = .int .i64 bs ∧ 0 < bs ∧ bs ≤ 2 * N + 20 ∧ N - bs ≤ g2 ∧ Aside (∃ l, Blk (ltOf cf) bs l ∧ Same (ltOf cf) l0 l ∧ l.length = N ∧ SW enc w0 blk off l.toArray wr))
      case atStart => exact ⟨20, rfl, by omega, by omega, by omega, HF⟩
      case round =>
        clear HF
        obtain ⟨bs, rfl, hb0, hbN, hg2, H⟩ := hrel
        by_cases hlt : bs < N
        · have hltz : (bs : Int) < (N : Int) := by omega
          have HS2 : Aside (∃ E, Full (ltOf cf) (2 * bs) [] ∧ ([] : List α).length = 0 ∧ Blk (ltOf cf) bs E ∧ Same (ltOf cf) l0 ([] ++ E) ∧ ([] ++ E).length = N ∧ SW enc w0 blk off ([] ++ E).toArray wr) := by
            obtain ⟨l, k1, k2, k3, k4⟩ := H.out
            exact ⟨l, Full.nil, rfl, k1, k2, k3, by simpa using k4⟩
          clear H
          go_wp2
          go_loopg [7, 8] N (fun g3 va vb wr => ∃ (a : Nat) (D E : List α), va = .int .i64 a ∧ vb = .int .i64 ((a : Int) + 2 * (bs : Int)) ∧ a ≤ N ∧ N - a ≤ g3 ∧ Aside (Full (ltOf cf) (2 * bs) D ∧ D.length = a ∧ Blk (ltOf cf) bs E ∧ Same (ltOf cf) l0 (D ++ E) ∧ (D ++ E).length = N ∧ SW enc w0 blk off (D ++ E).toArray wr))
          case atStart =>
            obtain ⟨E, HE⟩ := HS2.out
            exact ⟨0, [], E, rfl, by first | rfl | go_num | (congr 1; omega), Nat.zero_le _, by omega, HE⟩
          case round =>
            clear HS2
            obtain ⟨a, D, E, rfl, rfl, haN, hg3, H⟩ := hrel
            by_cases hle : a + 2 * bs ≤ N
            · have hlez : (a : Int) + 2 * (bs : Int) ≤ (N : Int) := by omega
              obtain ⟨L, Q, E', HE⟩ : ∃ L Q E', Aside (E = L ++ (Q ++ E') ∧ L.length = bs ∧ Q.length = bs ∧ Sorted (ltOf cf) L ∧ Sorted (ltOf cf) Q ∧ Blk (ltOf cf) bs E') := H.out.2.2.1.two hb0 (by have h4 := H.out.2.2.2.2.1; rw [List.length_append, H.out.2.1] at h4; omega)
              go_wp2_with (go_at_call 172; fail)
              rw [show (a : Int) + (bs : Int) = ((a + bs : Nat) : Int) by omega, show (a : Int) + 2 * (bs : Int) = ((a + 2 * bs : Nat) : Int) by omega]
              refine (HSYM.out a (a + bs) (a + 2 * bs) D L Q E' wr H.out.2.1 (by rw [HE.out.2.1]) (by rw [HE.out.2.2.1]; omega) (by rw [HE.out.2.1]; exact hb0) (by rw [HE.out.2.2.1]; exact hb0) (by have := H.out.2.2.2.2.1; rw [HE.out.1] at this; exact this) HE.out.2.2.2.1 HE.out.2.2.2.2.1 (by have := H.out.2.2.2.2.2; rw [HE.out.1] at this; exact this)).mono ?_
              rintro e w3 ⟨rfl, M, q1, q2, q3⟩
              have HF : Aside (Full (ltOf cf) (2 * bs) (D ++ M) ∧ (D ++ M).length = a + 2 * bs ∧ Blk (ltOf cf) bs E' ∧ Same (ltOf cf) l0 ((D ++ M) ++ E') ∧ ((D ++ M) ++ E').length = N ∧ SW enc w0 blk off ((D ++ M) ++ E').toArray w3) := by
                obtain ⟨k1, k2, k3, k4, k5, k6⟩ := H.out
                obtain ⟨r1, r2, r3, r4, r5, r6⟩ := HE.out
                have hml : M.length = 2 * bs := by rw [← q2.len HOD.out, List.length_append]; omega
                rw [r1] at k4 k5
                refine ⟨Full.snoc D M k1 hml q1, by rw [List.length_append, k2, hml], r6, ?_, ?_, by simpa using q3⟩
                · rw [List.append_assoc]
                  refine k4.trans ((Same.refl _ D).app ?_)
                  rw [← List.append_assoc]
                  exact q2.app (Same.refl _ E')
                · simp only [List.length_append] at k5 ⊢
                  omega
              clear q1 q2 q3 H
              go_wp2
              go_roundg (N - (a + 2 * bs))
              case measure => omega
              case rel => exact ⟨a + 2 * bs, D ++ M, E', by first | go_num | (congr 1; omega), by first | go_num | (congr 1; omega), by omega, Nat.le_refl _, HF⟩
            · have hlez : ¬ ((a : Int) + 2 * (bs : Int) ≤ (N : Int)) := by omega
              by_cases hmn : a + bs < N
              · have hmz : (a : Int) + (bs : Int) < (N : Int) := by omega
                obtain ⟨L, Q, HE⟩ : ∃ L Q, Aside (E = L ++ Q ∧ L.length = bs ∧ 0 < Q.length ∧ Sorted (ltOf cf) L ∧ Sorted (ltOf cf) Q) := H.out.2.2.1.tail (by have h4 := H.out.2.2.2.2.1; rw [List.length_append, H.out.2.1] at h4; omega) (by have h4 := H.out.2.2.2.2.1; rw [List.length_append, H.out.2.1] at h4; omega)
                go_wp2_with (go_at_call 172; fail)
                rw [show (a : Int) + (bs : Int) = ((a + bs : Nat) : Int) by omega]
                refine (HSYM.out a (a + bs) N D L Q [] wr H.out.2.1 (by rw [HE.out.2.1]) (by have h4 := H.out.2.2.2.2.1; rw [HE.out.1, List.length_append, List.length_append, H.out.2.1, HE.out.2.1] at h4; omega) (by rw [HE.out.2.1]; exact hb0) HE.out.2.2.1 (by have := H.out.2.2.2.2.1; rw [HE.out.1] at this; simpa using this) HE.out.2.2.2.1 HE.out.2.2.2.2 (by have := H.out.2.2.2.2.2; rw [HE.out.1] at this; simpa using this)).mono ?_
                rintro e w3 ⟨rfl, M, q1, q2, q3⟩
                have HF : Aside (∃ l, Blk (ltOf cf) (2 * bs) l ∧ Same (ltOf cf) l0 l ∧ l.length = N ∧ SW enc w0 blk off l.toArray w3) := by
                  obtain ⟨k1, k2, k3, k4, k5, k6⟩ := H.out
                  obtain ⟨r1, r2, r3, r4, r5⟩ := HE.out
                  have hml : M.length = E.length := by rw [r1, ← q2.len HOD.out]
                  rw [r1] at k4
                  refine ⟨D ++ M, k1.blk (Blk.last M (by rw [List.length_append] at k5; omega) q1), k4.trans ((Same.refl _ D).app q2), by rw [List.length_append] at k5 ⊢; omega, by simpa using q3⟩
                clear q1 q2 q3 H
                go_wp2
                go_roundg (N - 2 * bs)
                case measure => omega
                case rel => exact ⟨2 * bs, by first | go_num | (congr 1; omega), by omega, by omega, Nat.le_refl _, HF⟩
              · have hmz : ¬ ((a : Int) + (bs : Int) < (N : Int)) := by omega
                have HF : Aside (∃ l, Blk (ltOf cf) (2 * bs) l ∧ Same (ltOf cf) l0 l ∧ l.length = N ∧ SW enc w0 blk off l.toArray wr) := by
                  obtain ⟨k1, k2, k3, k4, k5, k6⟩ := H.out
                  exact ⟨D ++ E, k1.blk (Blk.last E (by rw [List.length_append] at k5; omega) (k3.whole (by rw [List.length_append] at k5; omega))), k4, k5, k6⟩
                clear H
                go_wp2
                go_roundg (N - 2 * bs)
                case measure => omega
                case rel => exact ⟨2 * bs, by first | go_num | (congr 1; omega), by omega, by omega, Nat.le_refl _, HF⟩
        · have hltz : ¬ ((bs : Int) < (N : Int)) := by omega
          go_wp2
          go_end0
          obtain ⟨l, k1, k2, k3, k4⟩ := H.out
          exact ⟨rfl, l, k1.whole (by omega), k2, k4⟩

set_option maxHeartbeats 1600000 in
theorem sortStable_any (enc : α → Value) (cf : α → α → Int) (g : Nat) (cb : Array Value) (blk off cap N : Nat) (l0 : List α) (w0 : World) (eg : ∀ args w, (callFunc g args).run Tryz.prog w = .ok (.enter g args) w) (hcmp : CmpLays1 Tryz.prog g cb enc cf blk off l0.toArray.size w0) (ho : Ord (ltOf cf)) (R : Row1 enc w0 blk off l0.toArray) (hN : l0.length = N) (hsz : N < 1152921504606846976) :
    Calls Tryz.prog 121 #[.slice (some ⟨blk, off, none⟩) N cap, .func (.func g) #[] cb] w0 fun e w' => e = .returned (.tuple #[]) ∧ ∃ l, Sorted (ltOf cf) l ∧ Same (ltOf cf) l0 l ∧ SW enc w0 blk off l.toArray w' := by
  have HST : Aside (Calls Tryz.prog 153 #[.slice (some ⟨blk, off, none⟩) N cap, .int .i64 N, .func (.func g) #[] cb] w0 fun e w' => e = .returned (.tuple #[]) ∧ ∃ l, Sorted (ltOf cf) l ∧ Same (ltOf cf) l0 l ∧ SW enc w0 blk off l.toArray w') := stable_any enc cf g cb blk off cap N l0 w0 eg hcmp ho R hN hsz
  clear hcmp ho R hN
  go_enter Tryz.func121, Tryz.ntmps121
  go_wp2_with (go_at_call 153; fail)
  refine HST.out.mono ?_
  rintro e w2 ⟨rfl, hS⟩
  have HF : Aside (∃ l, Sorted (ltOf cf) l ∧ Same (ltOf cf) l0 l ∧ SW enc w0 blk off l.toArray w2) := hS
  clear hS
  go_wp2
  go_end0
  exact ⟨rfl, HF.out⟩
end Stb
end Go.Proofs.YtjceppinfjbegaaGreatDoor

