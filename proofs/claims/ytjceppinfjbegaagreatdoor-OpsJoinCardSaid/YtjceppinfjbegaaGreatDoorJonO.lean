import Derived.Test.YtjceppinfjbegaaGreatDoorJonN
set_option linter.unusedSimpArgs false
set_option linter.unusedVariables false
namespace Go.Proofs.YtjceppinfjbegaaGreatDoor
open Go.RowKit

set_option maxHeartbeats 400000 in
theorem join1_any (s nm : ByteArray) (k : Int) (ab : Nat) (w : World) (hc : w.cell? ⟨ab, 0, none⟩ = some (.string nm)) (hab : ab < w.heap.size) :
    Calls Tryz.prog 21 #[.agg #[.string s, .int .i64 k], .pointer (some ⟨ab, 0, none⟩)] w fun e w' => e = .returned (.bool (s.data.toList == nm.data.toList)) ∧ Below w.heap.size w w' := by
  go_enter Tryz.func21, Tryz.ntmps21
  go_wp2
  go_ret
  exact ⟨ret_bool (by rw [ByteArray.toList_eq, ByteArray.toList_eq]), below_box _ _⟩

set_option maxHeartbeats 800000 in
theorem indexJoin1_in (b o n c : Nat) (cs : List Cl) (nm : ByteArray) (ab : Nat) (w : World) (hn : cs.length = n) (hn' : n ≤ 100) (hb : b < w.heap.size) (hc : ColsAt w b o cs) (ha : w.cell? ⟨ab, 0, none⟩ = some (.string nm)) (hab : ab < w.heap.size) :
    Calls Tryz.prog 20 #[.slice (some ⟨b, o, none⟩) n c, .func (.func 21) #[] #[.pointer (some ⟨ab, 0, none⟩)]] w fun e w' => e = .returned (.int .i64 (placeI cs nm.data.toList)) ∧ Below w.heap.size w w' := by
  have HN : Hid (cs.length = n) := hn
  clear hn
  go_enter Tryz.func20, Tryz.ntmps20
  go_wp2
  go_loopw [8] (fun i wr => ∃ k : Nat, k ≤ n ∧ i = .int .i64 k ∧ (∀ j (h : j < cs.length), j < k → (cs[j].1.data.toList == nm.data.toList) = false) ∧ Below w.heap.size w wr) (fun i _ => n - (intOf i).toNat)
  case atStart => exact ⟨0, Nat.zero_le _, rfl, fun j _ h => absurd h (by omega), Below.refl _ _⟩
  case round =>
    obtain ⟨k, hk, rfl, hal, hnx⟩ := hrel
    have HA := Hid.mk hal
    clear hal
    by_cases hlt : k < n
    · have hk2 : k < cs.length := by have := HN.out; omega
      obtain ⟨c1, c2⟩ := hc k hk2
      have d1 := (hnx.cell (p := ⟨b, o + k * 2, none⟩) hb).trans c1
      have d2 := (hnx.cell (p := ⟨b, o + k * 2 + 1, none⟩) hb).trans c2
      clear c1 c2
      have H1 := Hid.mk (join1_any cs[k].1 nm cs[k].2 ab wr ((hnx.cell (p := ⟨ab, 0, none⟩) hab).trans ha) (by have := hnx.size; omega))
      cases hp : (cs[k].1.data.toList == nm.data.toList)
      · rw [hp] at H1
        have HP := Hid.mk hp
        clear hp
        go_wp2_with (go_at_call 21; refine H1.out.mono ?_; rintro e w1 ⟨rfl, hb1⟩)
        go_roundw
        case rel =>
          refine ⟨k + 1, by omega, by go_num, fun j h hj => ?_, bel_then hnx hb1⟩
          rcases Nat.lt_or_ge j k with hjk | hjk
          · exact HA.out j h hjk
          · obtain rfl : j = k := by omega
            exact HP.out
        case measure => simp [intOf]; omega
      · rw [hp] at H1
        have HP := Hid.mk hp
        clear hp
        go_wp2_with (go_at_call 21; refine H1.out.mono ?_; rintro e w1 ⟨rfl, hb1⟩)
        go_ret
        refine ⟨ret_int ?_, bel_then hnx hb1⟩
        rw [placeI, place_found hk2 HP.out (fun j hj => HA.out j (by omega) hj)]
    · go_wp2
      go_ret
      refine ⟨ret_int ?_, hnx⟩
      rw [placeI, place_not (fun j hj => HA.out j hj (by have := HN.out; omega))]

set_option maxHeartbeats 400000 in
theorem join2_any (s nm : ByteArray) (k : Int) (ab : Nat) (w : World) (hc : w.cell? ⟨ab, 0, none⟩ = some (.string nm)) (hab : ab < w.heap.size) :
    Calls Tryz.prog 22 #[.agg #[.string s, .int .i64 k], .pointer (some ⟨ab, 0, none⟩)] w fun e w' => e = .returned (.bool (s.data.toList == nm.data.toList)) ∧ Below w.heap.size w w' := by
  go_enter Tryz.func22, Tryz.ntmps22
  go_wp2
  go_ret
  exact ⟨ret_bool (by rw [ByteArray.toList_eq, ByteArray.toList_eq]), below_box _ _⟩

set_option maxHeartbeats 800000 in
theorem indexJoin2_in (b o n c : Nat) (cs : List Cl) (nm : ByteArray) (ab : Nat) (w : World) (hn : cs.length = n) (hn' : n ≤ 100) (hb : b < w.heap.size) (hc : ColsAt w b o cs) (ha : w.cell? ⟨ab, 0, none⟩ = some (.string nm)) (hab : ab < w.heap.size) :
    Calls Tryz.prog 20 #[.slice (some ⟨b, o, none⟩) n c, .func (.func 22) #[] #[.pointer (some ⟨ab, 0, none⟩)]] w fun e w' => e = .returned (.int .i64 (placeI cs nm.data.toList)) ∧ Below w.heap.size w w' := by
  have HN : Hid (cs.length = n) := hn
  clear hn
  go_enter Tryz.func20, Tryz.ntmps20
  go_wp2
  go_loopw [8] (fun i wr => ∃ k : Nat, k ≤ n ∧ i = .int .i64 k ∧ (∀ j (h : j < cs.length), j < k → (cs[j].1.data.toList == nm.data.toList) = false) ∧ Below w.heap.size w wr) (fun i _ => n - (intOf i).toNat)
  case atStart => exact ⟨0, Nat.zero_le _, rfl, fun j _ h => absurd h (by omega), Below.refl _ _⟩
  case round =>
    obtain ⟨k, hk, rfl, hal, hnx⟩ := hrel
    have HA := Hid.mk hal
    clear hal
    by_cases hlt : k < n
    · have hk2 : k < cs.length := by have := HN.out; omega
      obtain ⟨c1, c2⟩ := hc k hk2
      have d1 := (hnx.cell (p := ⟨b, o + k * 2, none⟩) hb).trans c1
      have d2 := (hnx.cell (p := ⟨b, o + k * 2 + 1, none⟩) hb).trans c2
      clear c1 c2
      have H1 := Hid.mk (join2_any cs[k].1 nm cs[k].2 ab wr ((hnx.cell (p := ⟨ab, 0, none⟩) hab).trans ha) (by have := hnx.size; omega))
      cases hp : (cs[k].1.data.toList == nm.data.toList)
      · rw [hp] at H1
        have HP := Hid.mk hp
        clear hp
        go_wp2_with (go_at_call 22; refine H1.out.mono ?_; rintro e w1 ⟨rfl, hb1⟩)
        go_roundw
        case rel =>
          refine ⟨k + 1, by omega, by go_num, fun j h hj => ?_, bel_then hnx hb1⟩
          rcases Nat.lt_or_ge j k with hjk | hjk
          · exact HA.out j h hjk
          · obtain rfl : j = k := by omega
            exact HP.out
        case measure => simp [intOf]; omega
      · rw [hp] at H1
        have HP := Hid.mk hp
        clear hp
        go_wp2_with (go_at_call 22; refine H1.out.mono ?_; rintro e w1 ⟨rfl, hb1⟩)
        go_ret
        refine ⟨ret_int ?_, bel_then hnx hb1⟩
        rw [placeI, place_found hk2 HP.out (fun j hj => HA.out j (by omega) hj)]
    · go_wp2
      go_ret
      refine ⟨ret_int ?_, hnx⟩
      rw [placeI, place_not (fun j hj => HA.out j hj (by have := HN.out; omega))]

set_option maxHeartbeats 400000 in
theorem join3_any (s nm : ByteArray) (k : Int) (ab : Nat) (w : World) (hc : w.cell? ⟨ab, 0, none⟩ = some (.string nm)) (hab : ab < w.heap.size) :
    Calls Tryz.prog 23 #[.agg #[.string s, .int .i64 k], .pointer (some ⟨ab, 0, none⟩)] w fun e w' => e = .returned (.bool (s.data.toList == nm.data.toList)) ∧ Below w.heap.size w w' := by
  go_enter Tryz.func23, Tryz.ntmps23
  go_wp2
  go_ret
  exact ⟨ret_bool (by rw [ByteArray.toList_eq, ByteArray.toList_eq]), below_box _ _⟩

set_option maxHeartbeats 800000 in
theorem indexJoin3_in (b o n c : Nat) (cs : List Cl) (nm : ByteArray) (ab : Nat) (w : World) (hn : cs.length = n) (hn' : n ≤ 100) (hb : b < w.heap.size) (hc : ColsAt w b o cs) (ha : w.cell? ⟨ab, 0, none⟩ = some (.string nm)) (hab : ab < w.heap.size) :
    Calls Tryz.prog 20 #[.slice (some ⟨b, o, none⟩) n c, .func (.func 23) #[] #[.pointer (some ⟨ab, 0, none⟩)]] w fun e w' => e = .returned (.int .i64 (placeI cs nm.data.toList)) ∧ Below w.heap.size w w' := by
  have HN : Hid (cs.length = n) := hn
  clear hn
  go_enter Tryz.func20, Tryz.ntmps20
  go_wp2
  go_loopw [8] (fun i wr => ∃ k : Nat, k ≤ n ∧ i = .int .i64 k ∧ (∀ j (h : j < cs.length), j < k → (cs[j].1.data.toList == nm.data.toList) = false) ∧ Below w.heap.size w wr) (fun i _ => n - (intOf i).toNat)
  case atStart => exact ⟨0, Nat.zero_le _, rfl, fun j _ h => absurd h (by omega), Below.refl _ _⟩
  case round =>
    obtain ⟨k, hk, rfl, hal, hnx⟩ := hrel
    have HA := Hid.mk hal
    clear hal
    by_cases hlt : k < n
    · have hk2 : k < cs.length := by have := HN.out; omega
      obtain ⟨c1, c2⟩ := hc k hk2
      have d1 := (hnx.cell (p := ⟨b, o + k * 2, none⟩) hb).trans c1
      have d2 := (hnx.cell (p := ⟨b, o + k * 2 + 1, none⟩) hb).trans c2
      clear c1 c2
      have H1 := Hid.mk (join3_any cs[k].1 nm cs[k].2 ab wr ((hnx.cell (p := ⟨ab, 0, none⟩) hab).trans ha) (by have := hnx.size; omega))
      cases hp : (cs[k].1.data.toList == nm.data.toList)
      · rw [hp] at H1
        have HP := Hid.mk hp
        clear hp
        go_wp2_with (go_at_call 23; refine H1.out.mono ?_; rintro e w1 ⟨rfl, hb1⟩)
        go_roundw
        case rel =>
          refine ⟨k + 1, by omega, by go_num, fun j h hj => ?_, bel_then hnx hb1⟩
          rcases Nat.lt_or_ge j k with hjk | hjk
          · exact HA.out j h hjk
          · obtain rfl : j = k := by omega
            exact HP.out
        case measure => simp [intOf]; omega
      · rw [hp] at H1
        have HP := Hid.mk hp
        clear hp
        go_wp2_with (go_at_call 23; refine H1.out.mono ?_; rintro e w1 ⟨rfl, hb1⟩)
        go_ret
        refine ⟨ret_int ?_, bel_then hnx hb1⟩
        rw [placeI, place_found hk2 HP.out (fun j hj => HA.out j (by omega) hj)]
    · go_wp2
      go_ret
      refine ⟨ret_int ?_, hnx⟩
      rw [placeI, place_not (fun j hj => HA.out j hj (by have := HN.out; omega))]

end Go.Proofs.YtjceppinfjbegaaGreatDoor

