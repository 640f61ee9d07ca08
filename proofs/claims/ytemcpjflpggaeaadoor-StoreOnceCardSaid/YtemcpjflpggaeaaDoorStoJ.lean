import Derived.Test.YtemcpjflpggaeaaDoorStoI
set_option linter.unusedSimpArgs false
set_option linter.unusedVariables false
namespace Go.Proofs.YtemcpjflpggaeaaDoor.Dk
open Go.RowKit Go.Maps Go.Shelf
attribute [local go_sem] Oper.semAt_some

def chN (n : Nat) : Nat := (n + 62) / 63
def chM (n r : Nat) : Nat := min 63 (n - 63 * r)
/-- A chunk of a row of bytes. -/
def chV (g n r : Nat) : Value := .slice (some ⟨g, 63 * r, none⟩) (chM n r) (chM n r)
theorem min63 (n i m : Nat) (hm : min 63 (n - i) = m) (hi : i < n) (hn : n ≤ 1000) : 1 ≤ m ∧ m ≤ 63 ∧ i + m ≤ n ∧ (∀ h : ((n - i : Nat) : Int) ≤ 63, m = n - i) ∧ (¬ ((n - i : Nat) : Int) < 63 → m = 63) := by omega
set_option maxRecDepth 100000 in
set_option maxHeartbeats 1600000 in
theorem chunk_in (n : Nat) (l c1 c2 g cap len : Nat) (J Jx : Nat → World → Prop) (hlen : len ≤ 1000) (hcap : len ≤ cap) (hA : ∀ j W, J j W → W.cell? ⟨c1, 0, none⟩ = some (.slice (some ⟨g, 0, none⟩) len cap) ∧ W.cell? ⟨c2, 0, none⟩ = some (.int .i64 63)) (hAd : ∀ j W, J j W → J j W.drew)
    (hY : ∀ j W, j < chN len → J (j + 1) W → YieldAt Fence.wide (n - 1) Tryd.prog l #[chV g len (chN len - (j + 1))] W fun e W' => (e = .returned (.bool true) ∧ J j W') ∨ (e = .returned (.bool false) ∧ Jx j W'))
    (W : World) (h0 : J (chN len) W) :
    CallsIn Fence.wide n Tryd.prog 86 #[.func (.yield l) #[] #[], .pointer (some ⟨c1, 0, none⟩), .pointer (some ⟨c2, 0, none⟩)] W fun e W' => (∃ v, e = .returned v) ∧ (J 0 W' ∨ ∃ j, j < chN len ∧ Jx j W') := by
  have HY := hid hY
  have HA := hid hA
  have HAD := hid hAd
  clear hY hA hAd
  have hmf : Tryd.prog.follows .mixedOrders = true := by kernel_rfl
  refine callsIn_of_wp Tryd.func86 rfl trivial ?_ rfl
  simp only [Tryd.ntmps86, List.size_toArray, List.length_cons, List.length_nil, Nat.reduceAdd, Nat.reduceSub, Array.replicate_succ, Array.replicate_zero, List.push_toArray, List.append_toArray, List.nil_append, List.cons_append]
  gi_wp2
  gi_loopw [4] (fun p wr => ∃ j : Nat, j ≤ chN len ∧ p = .int .i64 ((63 * (chN len - j) : Nat) : Int) ∧ J j wr) (fun p wr => len + 63 - (intOf p).toNat)
  case atStart => exact ⟨_, Nat.le_refl _, by simp, h0⟩
  case round =>
    obtain ⟨j, hj, rfl, hJ⟩ := hrel
    obtain ⟨a1, a2⟩ := HA.out _ _ hJ
    have HJ := hid hJ
    clear hJ
    cases j with
    | zero =>
      obtain ⟨i, hi⟩ : ∃ i, 63 * (chN len - 0) = i := ⟨_, rfl⟩
      rw [hi]
      have hge : ¬ (i : Int) < (len : Int) := by rw [← hi]; unfold chN; omega
      clear hi
      gi_wp2
      go_end0
      exact ⟨⟨_, rfl⟩, Or.inl HJ.out⟩
    | succ j =>
      have hjn : j < chN len := hj
      obtain ⟨fn, tmps, assign, body, hy, hR⟩ := HY.out j wr.drew hjn (HAD.out _ _ HJ.out)
      obtain ⟨i, hi⟩ : ∃ i, 63 * (chN len - (j + 1)) = i := ⟨_, rfl⟩
      have hlt : i < len := by rw [← hi]; unfold chN at *; omega
      obtain ⟨m, hm⟩ : ∃ m, min 63 (len - i) = m := ⟨_, rfl⟩
      have HI := hid hi
      have HM := hid hm
      have hltI : (i : Int) < (len : Int) := by omega
      have hcapI : (len : Int) ≤ (cap : Int) := by omega
      have hne : ¬ cap = i := by omega
      have hv : chV g len (chN len - (j + 1)) = .slice (some ⟨g, i, none⟩) m m := by unfold chV chM; rw [hi, hm]
      rw [hv] at hy
      obtain ⟨m1, m2, m3, -⟩ := min63 len i m hm hlt hlen
      have hmI : min (63 : Int) ((len - i : Nat) : Int) = (m : Int) := by omega
      have g1 : (0 : Int) ≤ (i : Int) := by omega
      have g2 : (i : Int) ≤ (len : Int) := by omega
      have g3 : i ≤ len := by omega
      have g4 : (i : Int) ≤ (cap : Int) := by omega
      have g5 : (i : Int) + (m : Int) ≤ (cap : Int) := by omega
      have g6 : (i : Int) ≤ (i : Int) + (m : Int) := by omega
      have g7 : ¬ i + m = i := by omega
      have g8 : ((i : Int) + (m : Int)).toNat = i + m := by omega
      have g9 : i + m - i = m := by omega
      have g10 : ¬ (i : Int) + (m : Int) = (i : Int) := by omega
      have hwr : IntKind.i64.wrap ((i : Int) + (m : Int)) = (i : Int) + (m : Int) := by
        rw [show (i : Int) + (m : Int) = ((i + m : Nat) : Int) by omega]
        exact wrap_nat _ (by omega)
      have hwr2 : IntKind.i64.wrap ((i : Int) + 63) = (i : Int) + 63 := by
        rw [show (i : Int) + 63 = ((i + 63 : Nat) : Int) by omega]
        exact wrap_nat _ (by omega)
      rw [hi]
      clear hi hm hv
      gi_wp2
      refine wpIn_wide.2 ?_
      go_region_held3 (fun V => V.cell? ⟨c1, 0, none⟩ = some (.slice (some ⟨g, 0, none⟩) len cap) ∧ V.cell? ⟨c2, 0, none⟩ = some (.int .i64 63)) (first | exact ⟨a1, a2⟩) (fail)
      have a1d : wr.drew.cell? ⟨c1, 0, none⟩ = some (.slice (some ⟨g, 0, none⟩) len cap) := a1
      gi_wp2
      refine ⟨fun h => (by cases h), ?_⟩
      refine hR.mono ?_
      rintro e W3 (⟨rfl, hJ3⟩ | ⟨rfl, hJx3⟩)
      · obtain ⟨b1, b2⟩ := HA.out _ _ hJ3
        have HJ3 := hid hJ3
        clear hJ3
        gi_wp2
        go_roundw
        case rel => exact ⟨j, by omega, by have := HI.out; congr 1; unfold chN at *; omega, HJ3.out⟩
        case measure => simp [intOf]; omega
      · gi_wp2
        refine bodyPost_ret (results_none rfl _ _ _) rfl ?_
        exact ⟨⟨_, rfl⟩, Or.inr ⟨j, hjn, hJx3⟩⟩
end Go.Proofs.YtemcpjflpggaeaaDoor.Dk
