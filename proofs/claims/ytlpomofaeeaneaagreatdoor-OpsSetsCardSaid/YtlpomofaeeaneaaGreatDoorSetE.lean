import Derived.Test.YtlpomofaeeaneaaGreatDoorSetA
import Derived.Test.YtlpomofaeeaneaaGreatDoorSmlV
set_option linter.unusedSimpArgs false
set_option linter.unusedVariables false
namespace Go.Proofs.YtlpomofaeeaneaaGreatDoor
open Go.RowKit

set_option maxHeartbeats 400000 in
theorem sets3_any (s nm : ByteArray) (k : Int) (ab : Nat) (w : World) (hc : w.cell? ⟨ab, 0, none⟩ = some (.string nm)) (hab : ab < w.heap.size) :
    Calls Tryz.prog 18 #[.agg #[.string s, .int .i64 k], .pointer (some ⟨ab, 0, none⟩)] w fun e w' => e = .returned (.bool (s.data.toList == nm.data.toList)) ∧ Below w.heap.size w w' := by
  go_enter Tryz.func18, Tryz.ntmps18
  go_wp2
  go_ret
  exact ⟨ret_bool (by rw [ByteArray.toList_eq, ByteArray.toList_eq]), below_box _ _⟩

set_option maxHeartbeats 800000 in
theorem indexSet_in (b o n c : Nat) (cs : List Cl) (nm : ByteArray) (ab : Nat) (w : World) (hn : cs.length = n) (hn' : n ≤ 100) (hb : b < w.heap.size) (hc : ColsAt w b o cs) (ha : w.cell? ⟨ab, 0, none⟩ = some (.string nm)) (hab : ab < w.heap.size) :
    Calls Tryz.prog 17 #[.slice (some ⟨b, o, none⟩) n c, .func (.func 18) #[] #[.pointer (some ⟨ab, 0, none⟩)]] w fun e w' => e = .returned (.int .i64 (placeI cs nm.data.toList)) ∧ Below w.heap.size w w' := by
  have HN : Hid (cs.length = n) := hn
  clear hn
  go_enter Tryz.func17, Tryz.ntmps17
  go_wp2
  go_loopw [8] (fun i wr => ∃ k : Nat, k ≤ n ∧ i = .int .i64 k ∧ (∀ j (h : j < cs.length), j < k → (cs[j].1.data.toList == nm.data.toList) = false) ∧ Below w.heap.size w wr) (fun i _ => n - (intOf i).toNat)
  case atStart => exact ⟨0, Nat.zero_le _, rfl, fun j _ h => absurd h (by omega), Below.refl _ _⟩
  case round =>
    obtain ⟨k, hk, rfl, hal, hnx⟩ := hrel
    have HA := Hid.mk hal
    clear hal
    by_cases hlt : k < n
    · have hk2 : k < cs.length := by have := HN.out; omega
      obtain ⟨c1, c2⟩ := hc k hk2
      have d1 := (hnx.cell (p := ⟨b, o + k * 2, none⟩) hb).trans c1
      have d2 := (hnx.cell (p := ⟨b, o + k * 2 + 1, none⟩) hb).trans c2
      clear c1 c2
      have H1 := Hid.mk (sets3_any cs[k].1 nm cs[k].2 ab wr ((hnx.cell (p := ⟨ab, 0, none⟩) hab).trans ha) (by have := hnx.size; omega))
      cases hp : (cs[k].1.data.toList == nm.data.toList)
      · rw [hp] at H1
        have HP := Hid.mk hp
        clear hp
        go_wp2_with (go_at_call 18; refine H1.out.mono ?_; rintro e w1 ⟨rfl, hb1⟩)
        go_roundw
        case rel =>
          refine ⟨k + 1, by omega, by go_num, fun j h hj => ?_, bel_then hnx hb1⟩
          rcases Nat.lt_or_ge j k with hjk | hjk
          · exact HA.out j h hjk
          · obtain rfl : j = k := by omega
            exact HP.out
        case measure => simp [intOf]; omega
      · rw [hp] at H1
        have HP := Hid.mk hp
        clear hp
        go_wp2_with (go_at_call 18; refine H1.out.mono ?_; rintro e w1 ⟨rfl, hb1⟩)
        go_ret
        refine ⟨ret_int ?_, bel_then hnx hb1⟩
        rw [placeI, place_found hk2 HP.out (fun j hj => HA.out j (by omega) hj)]
    · go_wp2
      go_ret
      refine ⟨ret_int ?_, hnx⟩
      rw [placeI, place_not (fun j hj => HA.out j hj (by have := HN.out; omega))]

/-- The number in a row. -/
def numAt (i : Nat) (r : List Vl) : Int := (r[i]?.getD (0, 0, ⟨#[]⟩)).2.1
def not0 (i : Nat) (r : List Vl) : Bool := numAt i r != 0
def over (i : Nat) (n : Int) (r : List Vl) : Bool := decide (1000000000 - n < numAt i r)
theorem numAt_in {i : Nat} {r : List Vl} (h : i < r.length) : numAt i r = r[i].2.1 := by unfold numAt; rw [List.getElem?_eq_getElem h]; rfl

set_option maxHeartbeats 400000 in
theorem sets4_in (kb i b o c : Nat) (r : List Vl) (w : World) (hb : b < w.heap.size) (hr : ValsAt w b o r) (hkb : w.cell? ⟨kb, 0, none⟩ = some (.int .i64 i)) (hkl : kb < w.heap.size) (hi : i < r.length) (h100 : r.length ≤ 100) :
    Calls Tryz.prog 20 #[.slice (some ⟨b, o, none⟩) r.length c, .pointer (some ⟨kb, 0, none⟩)] w fun e w' => e = .returned (.bool (not0 i r)) ∧ Below w.heap.size w w' := by
  obtain ⟨d0, d1, d2⟩ := hr i hi
  have hi' : (i : Int) < (r.length : Int) := by omega
  rw [not0, numAt_in hi]
  clear hr
  go_enter Tryz.func20, Tryz.ntmps20
  go_wp2
  go_ret
  exact ⟨rfl, Below.refl _ _⟩
theorem sets4_any (kb i : Nat) (u : Value) (r : List Vl) (w : World) (hr : RowIs w u r) (hkb : w.cell? ⟨kb, 0, none⟩ = some (.int .i64 i)) (hkl : kb < w.heap.size) (hi : i < r.length) (h100 : r.length ≤ 100) :
    Calls Tryz.prog 20 #[u, .pointer (some ⟨kb, 0, none⟩)] w fun e w' => e = .returned (.bool (not0 i r)) ∧ Below w.heap.size w w' := by
  obtain ⟨a, c, rfl, -, h⟩ := hr
  rcases h with h | ⟨b, o, rfl, hl, hat⟩
  · rw [h] at hi; simp at hi
  · exact sets4_in kb i b o c r w hl hat hkb hkl hi h100
set_option maxHeartbeats 400000 in
theorem sets5_in (kb nb i : Nat) (n0 : Int) (b o c : Nat) (r : List Vl) (w : World) (hb : b < w.heap.size) (hr : ValsAt w b o r) (hkb : w.cell? ⟨kb, 0, none⟩ = some (.int .i64 i)) (hkl : kb < w.heap.size) (hi : i < r.length) (h100 : r.length ≤ 100) (hnb : w.cell? ⟨nb, 0, none⟩ = some (.int .i64 n0)) (hnl : nb < w.heap.size) (hn0 : 0 ≤ n0 ∧ n0 ≤ 1000000000) :
    Calls Tryz.prog 22 #[.slice (some ⟨b, o, none⟩) r.length c, .pointer (some ⟨kb, 0, none⟩), .pointer (some ⟨nb, 0, none⟩)] w fun e w' => e = .returned (.bool (over i n0 r)) ∧ Below w.heap.size w w' := by
  obtain ⟨d0, d1, d2⟩ := hr i hi
  obtain ⟨g0, g1⟩ := hn0
  have hi' : (i : Int) < (r.length : Int) := by omega
  rw [over, numAt_in hi]
  clear hr
  go_enter Tryz.func22, Tryz.ntmps22
  go_wp2
  go_quiet (fail)
  go_wp2
  go_ret
  exact ⟨rfl, below_growN _ _ #[]⟩
theorem sets5_any (kb nb i : Nat) (n0 : Int) (u : Value) (r : List Vl) (w : World) (hr : RowIs w u r) (hkb : w.cell? ⟨kb, 0, none⟩ = some (.int .i64 i)) (hkl : kb < w.heap.size) (hi : i < r.length) (h100 : r.length ≤ 100) (hnb : w.cell? ⟨nb, 0, none⟩ = some (.int .i64 n0)) (hnl : nb < w.heap.size) (hn0 : 0 ≤ n0 ∧ n0 ≤ 1000000000) :
    Calls Tryz.prog 22 #[u, .pointer (some ⟨kb, 0, none⟩), .pointer (some ⟨nb, 0, none⟩)] w fun e w' => e = .returned (.bool (over i n0 r)) ∧ Below w.heap.size w w' := by
  obtain ⟨a, c, rfl, -, h⟩ := hr
  rcases h with h | ⟨b, o, rfl, hl, hat⟩
  · rw [h] at hi; simp at hi
  · exact sets5_in kb nb i n0 b o c r w hl hat hkb hkl hi h100 hnb hnl hn0

set_option maxHeartbeats 400000 in
theorem pick_any (n : Int) (w : World) (h0 : -9223372036854775808 ≤ n) (h1 : n ≤ 9223372036854775807) :
    Calls Tryz.prog 21 #[.int .i64 n, .int .i64 1000000000] w fun e w' => (∃ k : Int, e = .returned (.int .i64 k) ∧ 0 ≤ k ∧ k < 1000000000) ∧ w' = w := by
  go_enter Tryz.func21, Tryz.ntmps21
  go_wp2
  go_ret
  have hX : IntKind.u64.wrap n = n % 18446744073709551616 := by unfold IntKind.wrap; simp [IntKind.signed, IntKind.bits]
  have hm : (IntKind.u64.wrap n).tmod 1000000000 = (IntKind.u64.wrap n) % 1000000000 := Int.tmod_eq_emod_of_nonneg (by rw [hX]; omega)
  have hw : wrap64 ((IntKind.u64.wrap n).tmod 1000000000) = (IntKind.u64.wrap n) % 1000000000 := by rw [hm]; unfold wrap64; omega
  refine ⟨⟨_, rfl, ?_, ?_⟩, rfl⟩
  · rw [hw]; omega
  · rw [hw]; omega

set_option maxHeartbeats 800000 in
theorem idxR4_in (kb i : Nat) (b o c n : Nat) (rs : List (List Vl)) (w : World) (hn : rs.length = n) (h8 : n ≤ 100) (hb : b < w.heap.size) (hc : RowsAt w b o rs) (hkb : w.cell? ⟨kb, 0, none⟩ = some (.int .i64 i)) (hkl : kb < w.heap.size) (hi : ∀ r ∈ rs, i < r.length ∧ r.length ≤ 100) :
    Calls Tryz.prog 40 #[.slice (some ⟨b, o, none⟩) n c, .func (.func 20) #[] #[.pointer (some ⟨kb, 0, none⟩)]] w fun e w' => ∃ r : Int, e = .returned (.int .i64 r) ∧ foundI r (rs.any (not0 i)) ∧ Below w.heap.size w w' := by
  have HN := Hid.mk hn
  clear hn
  go_enter Tryz.func40, Tryz.ntmps40
  go_wp2
  go_loopw [8] (fun ii wr => ∃ k : Nat, k ≤ n ∧ ii = .int .i64 k ∧ (rs.take k).any (not0 i) = false ∧ Below w.heap.size w wr) (fun i _ => n - (intOf i).toNat)
  case atStart => exact ⟨0, Nat.zero_le _, rfl, rfl, Below.refl _ _⟩
  case round =>
    obtain ⟨k, hk, rfl, hal, hnx⟩ := hrel
    have HA := Hid.mk hal
    clear hal
    by_cases hlt : k < n
    · have hk2 : k < rs.length := by have := HN.out; omega
      obtain ⟨u, hu, hrow⟩ := hc k hk2
      have hu' := (hnx.cell (p := ⟨b, o + k, none⟩) hb).trans hu
      have hq := sets4_any kb i u rs[k] wr (hrow.below hnx) ((hnx.cell (p := ⟨kb, 0, none⟩) hkl).trans hkb) (by have := hnx.size; omega) (hi _ (List.getElem_mem hk2)).1 (hi _ (List.getElem_mem hk2)).2
      obtain ⟨a3, c3, rfl, -, -⟩ := hrow
      have HQ := Hid.mk hq
      clear hq hu
      cases hp : not0 i rs[k]
      all_goals have HP := Hid.mk hp
      all_goals rw [hp] at HQ
      · go_wp2_with (go_at_call 20; refine HQ.out.mono ?_; rintro e w2 ⟨rfl, hb2⟩)
        go_roundw
        case rel => exact ⟨k + 1, by omega, by go_num, any_step hk2 HA.out HP.out, hnx.trans (hb2.mono hnx.size)⟩
        case measure => simp [intOf]; omega
      · go_wp2_with (go_at_call 20; refine HQ.out.mono ?_; rintro e w2 ⟨rfl, hb2⟩)
        go_ret
        exact ⟨k, rfl, ⟨by omega, by omega, by rw [any_hit hk2 HP.out]; simp⟩, hnx.trans (hb2.mono hnx.size)⟩
    · go_wp2
      go_ret
      exact ⟨-1, rfl, ⟨by omega, by omega, by have := HA.out; rw [List.take_of_length_le (by have := HN.out; omega)] at this; rw [this]; rfl⟩, hnx⟩
theorem idxR4_is (kb i : Nat) (v : Value) (rs : List (List Vl)) (w : World) (h : RowsIs w v rs) (h8 : rs.length ≤ 65) (hkb : w.cell? ⟨kb, 0, none⟩ = some (.int .i64 i)) (hkl : kb < w.heap.size) (hi : ∀ r ∈ rs, i < r.length ∧ r.length ≤ 100) :
    Calls Tryz.prog 40 #[v, .func (.func 20) #[] #[.pointer (some ⟨kb, 0, none⟩)]] w fun e w' => ∃ r : Int, e = .returned (.int .i64 r) ∧ foundI r (rs.any (not0 i)) ∧ Below w.heap.size w w' := by
  obtain ⟨a, c, rfl, rfl | ⟨b, o, rfl, hl, hat⟩⟩ := h
  · exact idxR_nil _ _ _ _
  · exact idxR4_in kb i b o c rs.length rs w rfl (by omega) hl hat hkb hkl hi
set_option maxHeartbeats 400000 in
theorem hasR4_any (kb i : Nat) (v : Value) (rs : List (List Vl)) (w : World) (h : RowsIs w v rs) (h8 : rs.length ≤ 65) (hkb : w.cell? ⟨kb, 0, none⟩ = some (.int .i64 i)) (hkl : kb < w.heap.size) (hi : ∀ r ∈ rs, i < r.length ∧ r.length ≤ 100) :
    Calls Tryz.prog 19 #[v, .func (.func 20) #[] #[.pointer (some ⟨kb, 0, none⟩)]] w fun e w' => e = .returned (.bool (rs.any (not0 i))) ∧ Below w.heap.size w w' := by
  have HQ := Hid.mk (idxR4_is kb i v rs w h h8 hkb hkl hi)
  obtain ⟨a, c, rfl, -⟩ := h
  go_enter Tryz.func19, Tryz.ntmps19
  go_wp2_with (go_at_call 40; refine HQ.out.mono ?_; rintro e w2 ⟨r, rfl, hf, hb2⟩; have HF := Hid.mk hf; clear hf)
  all_goals go_ret
  all_goals exact ⟨ret_bool (by rw [← HF.out.2.2]), hb2⟩

set_option maxHeartbeats 800000 in
theorem idxR5_in (kb nb i : Nat) (n0 : Int) (b o c n : Nat) (rs : List (List Vl)) (w : World) (hn : rs.length = n) (h8 : n ≤ 100) (hb : b < w.heap.size) (hc : RowsAt w b o rs) (hkb : w.cell? ⟨kb, 0, none⟩ = some (.int .i64 i)) (hkl : kb < w.heap.size) (hi : ∀ r ∈ rs, i < r.length ∧ r.length ≤ 100) (hnb : w.cell? ⟨nb, 0, none⟩ = some (.int .i64 n0)) (hnl : nb < w.heap.size) (hn0 : 0 ≤ n0 ∧ n0 ≤ 1000000000) :
    Calls Tryz.prog 40 #[.slice (some ⟨b, o, none⟩) n c, .func (.func 22) #[] #[.pointer (some ⟨kb, 0, none⟩), .pointer (some ⟨nb, 0, none⟩)]] w fun e w' => ∃ r : Int, e = .returned (.int .i64 r) ∧ foundI r (rs.any (over i n0)) ∧ Below w.heap.size w w' := by
  have HN := Hid.mk hn
  clear hn
  go_enter Tryz.func40, Tryz.ntmps40
  go_wp2
  go_loopw [8] (fun ii wr => ∃ k : Nat, k ≤ n ∧ ii = .int .i64 k ∧ (rs.take k).any (over i n0) = false ∧ Below w.heap.size w wr) (fun i _ => n - (intOf i).toNat)
  case atStart => exact ⟨0, Nat.zero_le _, rfl, rfl, Below.refl _ _⟩
  case round =>
    obtain ⟨k, hk, rfl, hal, hnx⟩ := hrel
    have HA := Hid.mk hal
    clear hal
    by_cases hlt : k < n
    · have hk2 : k < rs.length := by have := HN.out; omega
      obtain ⟨u, hu, hrow⟩ := hc k hk2
      have hu' := (hnx.cell (p := ⟨b, o + k, none⟩) hb).trans hu
      have hq := sets5_any kb nb i n0 u rs[k] wr (hrow.below hnx) ((hnx.cell (p := ⟨kb, 0, none⟩) hkl).trans hkb) (by have := hnx.size; omega) (hi _ (List.getElem_mem hk2)).1 (hi _ (List.getElem_mem hk2)).2 ((hnx.cell (p := ⟨nb, 0, none⟩) hnl).trans hnb) (by have := hnx.size; omega) hn0
      obtain ⟨a3, c3, rfl, -, -⟩ := hrow
      have HQ := Hid.mk hq
      clear hq hu
      cases hp : over i n0 rs[k]
      all_goals have HP := Hid.mk hp
      all_goals rw [hp] at HQ
      · go_wp2_with (go_at_call 22; refine HQ.out.mono ?_; rintro e w2 ⟨rfl, hb2⟩)
        go_roundw
        case rel => exact ⟨k + 1, by omega, by go_num, any_step hk2 HA.out HP.out, hnx.trans (hb2.mono hnx.size)⟩
        case measure => simp [intOf]; omega
      · go_wp2_with (go_at_call 22; refine HQ.out.mono ?_; rintro e w2 ⟨rfl, hb2⟩)
        go_ret
        exact ⟨k, rfl, ⟨by omega, by omega, by rw [any_hit hk2 HP.out]; simp⟩, hnx.trans (hb2.mono hnx.size)⟩
    · go_wp2
      go_ret
      exact ⟨-1, rfl, ⟨by omega, by omega, by have := HA.out; rw [List.take_of_length_le (by have := HN.out; omega)] at this; rw [this]; rfl⟩, hnx⟩
theorem idxR5_is (kb nb i : Nat) (n0 : Int) (v : Value) (rs : List (List Vl)) (w : World) (h : RowsIs w v rs) (h8 : rs.length ≤ 65) (hkb : w.cell? ⟨kb, 0, none⟩ = some (.int .i64 i)) (hkl : kb < w.heap.size) (hi : ∀ r ∈ rs, i < r.length ∧ r.length ≤ 100) (hnb : w.cell? ⟨nb, 0, none⟩ = some (.int .i64 n0)) (hnl : nb < w.heap.size) (hn0 : 0 ≤ n0 ∧ n0 ≤ 1000000000) :
    Calls Tryz.prog 40 #[v, .func (.func 22) #[] #[.pointer (some ⟨kb, 0, none⟩), .pointer (some ⟨nb, 0, none⟩)]] w fun e w' => ∃ r : Int, e = .returned (.int .i64 r) ∧ foundI r (rs.any (over i n0)) ∧ Below w.heap.size w w' := by
  obtain ⟨a, c, rfl, rfl | ⟨b, o, rfl, hl, hat⟩⟩ := h
  · exact idxR_nil _ _ _ _
  · exact idxR5_in kb nb i n0 b o c rs.length rs w rfl (by omega) hl hat hkb hkl hi hnb hnl hn0
set_option maxHeartbeats 400000 in
theorem hasR5_any (kb nb i : Nat) (n0 : Int) (v : Value) (rs : List (List Vl)) (w : World) (h : RowsIs w v rs) (h8 : rs.length ≤ 65) (hkb : w.cell? ⟨kb, 0, none⟩ = some (.int .i64 i)) (hkl : kb < w.heap.size) (hi : ∀ r ∈ rs, i < r.length ∧ r.length ≤ 100) (hnb : w.cell? ⟨nb, 0, none⟩ = some (.int .i64 n0)) (hnl : nb < w.heap.size) (hn0 : 0 ≤ n0 ∧ n0 ≤ 1000000000) :
    Calls Tryz.prog 19 #[v, .func (.func 22) #[] #[.pointer (some ⟨kb, 0, none⟩), .pointer (some ⟨nb, 0, none⟩)]] w fun e w' => e = .returned (.bool (rs.any (over i n0))) ∧ Below w.heap.size w w' := by
  have HQ := Hid.mk (idxR5_is kb nb i n0 v rs w h h8 hkb hkl hi hnb hnl hn0)
  obtain ⟨a, c, rfl, -⟩ := h
  go_enter Tryz.func19, Tryz.ntmps19
  go_wp2_with (go_at_call 40; refine HQ.out.mono ?_; rintro e w2 ⟨r, rfl, hf, hb2⟩; have HF := Hid.mk hf; clear hf)
  all_goals go_ret
  all_goals exact ⟨ret_bool (by rw [← HF.out.2.2]), hb2⟩

end Go.Proofs.YtlpomofaeeaneaaGreatDoor
