import Derived.Test.YtccbjhaebajamaaGreatDoorSrtE
import Derived.Deep.Cut
set_option linter.unusedSimpArgs false
set_option linter.unusedVariables false
namespace Go.Proofs.YtccbjhaebajamaaGreatDoor
open Go.RowKit
open Go.Sort (grow)

set_option maxHeartbeats 400000 in
theorem sort1_any (s : ByteArray) (w : World) (hs : s.size ≤ maxLen) : Calls Tryz.prog 16 #[.string s] w fun e w' => (∃ bb, e = .returned (.bool bb)) ∧ w' = w := by
  unfold maxLen at hs
  go_enter Tryz.func16, Tryz.ntmps16
  go_wp2
  all_goals go_ret
  all_goals exact ⟨⟨_, rfl⟩, rfl⟩

set_option maxHeartbeats 800000 in
theorem idxS1_in (b o n c : Nat) (ss : List ByteArray) (w : World) (hn : ss.length = n) (hn' : n ≤ 100) (hs : StrsAt w b o ss) (hz : ∀ s ∈ ss, s.size ≤ maxLen) :
    Calls Tryz.prog 40 #[.slice (some ⟨b, o, none⟩) n c, .func (.func 16) #[] #[]] w fun e w' => (∃ i : Int, e = .returned (.int .i64 i)) ∧ w' = w := by
  have HN := Hid.mk hn
  clear hn
  go_enter Tryz.func40, Tryz.ntmps40
  go_wp2
  go_loop [8] (fun i => ∃ k : Nat, k ≤ n ∧ i = .int .i64 k) (fun i => n - (intOf i).toNat)
  case atStart => exact ⟨0, Nat.zero_le _, rfl⟩
  case round =>
    obtain ⟨k, hk, rfl⟩ := hrel
    by_cases hlt : k < n
    · have hk2 : k < ss.length := by have := HN.out; omega
      have d1 := hs k hk2
      have H1 := Hid.mk (sort1_any ss[k] w (hz _ (List.getElem_mem hk2)))
      go_wp2_with (go_at_call 16; refine H1.out.mono ?_; rintro e w1 ⟨⟨bb, rfl⟩, rfl⟩; cases bb)
      · go_round
        case rel => exact ⟨k + 1, by omega, by go_num⟩
        case measure => simp [intOf]; omega
      · go_ret
        exact ⟨⟨_, rfl⟩, rfl⟩
    · go_wp2
      go_ret
      exact ⟨⟨_, rfl⟩, rfl⟩
theorem idxS1_is (v : Value) (ss : List ByteArray) (w : World) (h : StrsIs w v ss) (h8 : ss.length ≤ 100) :
    Calls Tryz.prog 40 #[v, .func (.func 16) #[] #[]] w fun e w' => (∃ i : Int, e = .returned (.int .i64 i)) ∧ w' = w := by
  obtain ⟨a, c, rfl, hz, h⟩ := h
  rcases h with rfl | ⟨b, o, rfl, hl, hat⟩
  · exact idxS_nil a c _ w
  · exact idxS1_in b o ss.length c ss w rfl h8 hat hz
set_option maxHeartbeats 400000 in
theorem hasS1_is (v : Value) (ss : List ByteArray) (w : World) (h : StrsIs w v ss) (h8 : ss.length ≤ 100) :
    Calls Tryz.prog 13 #[v, .func (.func 16) #[] #[]] w fun e w' => (∃ bb, e = .returned (.bool bb)) ∧ w' = w := by
  have HI := Hid.mk (idxS1_is v ss w h h8)
  obtain ⟨a, c, rfl, -⟩ := h
  go_enter Tryz.func13, Tryz.ntmps13
  go_wp2_with (go_at_call 40; refine HI.out.mono ?_; rintro e w1 ⟨⟨i, rfl⟩, rfl⟩)
  all_goals go_ret
  all_goals exact ⟨⟨_, rfl⟩, rfl⟩



set_option maxHeartbeats 400000 in
theorem sort2_any (s nm : ByteArray) (k : Int) (ab nb no sl sc : Nat) (w : World) (hc : w.cell? ⟨ab, 0, none⟩ = some (.slice (some ⟨nb, no, none⟩) sl sc)) (hab : ab < w.heap.size) (hn : w.cell? ⟨nb, no, none⟩ = some (.string nm)) (hnb : nb < w.heap.size) (hsl : 0 < sl) :
    Calls Tryz.prog 18 #[.agg #[.string s, .int .i64 k], .pointer (some ⟨ab, 0, none⟩)] w fun e w' => e = .returned (.bool (s.data.toList == nm.data.toList)) ∧ Below w.heap.size w w' := by
  have hsl' : (0 : Int) < (sl : Int) := by omega
  go_enter Tryz.func18, Tryz.ntmps18
  go_wp2
  go_quiet (fail)
  go_wp2
  go_ret
  exact ⟨ret_bool (by rw [ByteArray.toList_eq, ByteArray.toList_eq]), below_drewN (below_box _ _) _⟩

set_option maxHeartbeats 800000 in
theorem indexSort_in (b o n c : Nat) (cs : List Cl) (nm : ByteArray) (ab nb no sl sc : Nat) (w : World) (hn : cs.length = n) (hn' : n ≤ 100) (hb : b < w.heap.size) (hc : ColsAt w b o cs) (ha : w.cell? ⟨ab, 0, none⟩ = some (.slice (some ⟨nb, no, none⟩) sl sc)) (hab : ab < w.heap.size) (hn0 : w.cell? ⟨nb, no, none⟩ = some (.string nm)) (hnb : nb < w.heap.size) (hsl : 0 < sl) :
    Calls Tryz.prog 17 #[.slice (some ⟨b, o, none⟩) n c, .func (.func 18) #[] #[.pointer (some ⟨ab, 0, none⟩)]] w fun e w' => e = .returned (.int .i64 (placeI cs nm.data.toList)) ∧ Below w.heap.size w w' := by
  have HN : Hid (cs.length = n) := hn
  clear hn
  go_enter Tryz.func17, Tryz.ntmps17
  go_wp2
  go_loopw [8] (fun i wr => ∃ k : Nat, k ≤ n ∧ i = .int .i64 k ∧ (∀ j (h : j < cs.length), j < k → (cs[j].1.data.toList == nm.data.toList) = false) ∧ Below w.heap.size w wr) (fun i _ => n - (intOf i).toNat)
  case atStart => exact ⟨0, Nat.zero_le _, rfl, fun j _ h => absurd h (by omega), Below.refl _ _⟩
  case round =>
    obtain ⟨k, hk, rfl, hal, hnx⟩ := hrel
    have HA := Hid.mk hal
    clear hal
    by_cases hlt : k < n
    · have hk2 : k < cs.length := by have := HN.out; omega
      obtain ⟨c1, c2⟩ := hc k hk2
      have d1 := (hnx.cell (p := ⟨b, o + k * 2, none⟩) hb).trans c1
      have d2 := (hnx.cell (p := ⟨b, o + k * 2 + 1, none⟩) hb).trans c2
      clear c1 c2
      have H1 := Hid.mk (sort2_any cs[k].1 nm cs[k].2 ab nb no sl sc wr ((hnx.cell (p := ⟨ab, 0, none⟩) hab).trans ha) (by have := hnx.size; omega) ((hnx.cell (p := ⟨nb, no, none⟩) hnb).trans hn0) (by have := hnx.size; omega) hsl)
      cases hp : (cs[k].1.data.toList == nm.data.toList)
      · rw [hp] at H1
        have HP := Hid.mk hp
        clear hp
        go_wp2_with (go_at_call 18; refine H1.out.mono ?_; rintro e w1 ⟨rfl, hb1⟩)
        go_roundw
        case rel =>
          refine ⟨k + 1, by omega, by go_num, fun j h hj => ?_, bel_then hnx hb1⟩
          rcases Nat.lt_or_ge j k with hjk | hjk
          · exact HA.out j h hjk
          · obtain rfl : j = k := by omega
            exact HP.out
        case measure => simp [intOf]; omega
      · rw [hp] at H1
        have HP := Hid.mk hp
        clear hp
        go_wp2_with (go_at_call 18; refine H1.out.mono ?_; rintro e w1 ⟨rfl, hb1⟩)
        go_ret
        refine ⟨ret_int ?_, bel_then hnx hb1⟩
        rw [placeI, place_found hk2 HP.out (fun j hj => HA.out j (by omega) hj)]
    · go_wp2
      go_ret
      refine ⟨ret_int ?_, hnx⟩
      rw [placeI, place_not (fun j hj => HA.out j hj (by have := HN.out; omega))]


theorem ba_toList {x y : ByteArray} (h : x.toList = y.toList) : x = y := ba_ext (by rw [ByteArray.toList_eq, ByteArray.toList_eq] at h; exact h)
set_option maxHeartbeats 1600000 in
/-- slices.Equal, of rows of one length. -/
theorem eqVals_in (b o c b' o' c' n : Nat) (vs vs' : List Vl) (w : World) (hn : vs.length = n) (hn' : vs'.length = n) (h8 : n ≤ 100) (hb : b < w.heap.size) (hb' : b' < w.heap.size) (hc : ValsAt w b o vs) (hc' : ValsAt w b' o' vs') :
    Calls Tryz.prog 21 #[.slice (some ⟨b, o, none⟩) n c, .slice (some ⟨b', o', none⟩) n c'] w fun e w' => e = .returned (.bool (decide (vs = vs'))) ∧ ∃ q, w' = w.drewN q := by
  have HN := Hid.mk (And.intro hn hn')
  clear hn hn'
  go_enter Tryz.func21, Tryz.ntmps21
  go_wp2
  go_loopw [13] (fun i wr => ∃ k : Nat, k ≤ n ∧ i = .int .i64 k ∧ Hid (∀ q (h : q < vs.length) (h' : q < vs'.length), q < k → vs[q] = vs'[q]) ∧ Hid (∃ q, wr = w.drewN q)) (fun i _ => n - (intOf i).toNat)
  case atStart => exact ⟨0, Nat.zero_le _, rfl, Hid.mk (fun q _ _ h => absurd h (by omega)), Hid.mk ⟨0, rfl⟩⟩
  case round =>
    obtain ⟨k, hk, rfl, HA, HW⟩ := hrel
    have hcw : ∀ a, wr.cell? a = w.cell? a := by obtain ⟨q, rfl⟩ := HW.out; intro a; rfl
    by_cases hlt : k < n
    · have hk2 : k < vs.length := by have := HN.out.1; omega
      have hk2' : k < vs'.length := by have := HN.out.2; omega
      obtain ⟨c1, c2, c3⟩ := hc k hk2
      obtain ⟨c4, c5, c6⟩ := hc' k hk2'
      have d1 := (hcw ⟨b, o + k * 3, none⟩).trans c1
      have d2 := (hcw ⟨b, o + k * 3 + 1, none⟩).trans c2
      have d3 := (hcw ⟨b, o + k * 3 + 2, none⟩).trans c3
      have d4 := (hcw ⟨b', o' + k * 3, none⟩).trans c4
      have d5 := (hcw ⟨b', o' + k * 3 + 1, none⟩).trans c5
      have d6 := (hcw ⟨b', o' + k * 3 + 2, none⟩).trans c6
      clear c1 c2 c3 c4 c5 c6 hcw
      obtain ⟨x, hx⟩ : ∃ x, vs[k] = x := ⟨_, rfl⟩
      obtain ⟨y, hy⟩ : ∃ y, vs'[k] = y := ⟨_, rfl⟩
      rw [hx] at d1 d2 d3
      rw [hy] at d4 d5 d6
      have HXY := Hid.mk (And.intro hx hy)
      have HNE : Hid (x ≠ y → decide (vs = vs') = false) := Hid.mk (fun hne => decide_eq_false (by rintro rfl; exact hne (hx.symm.trans hy)))
      have HW2 : Hid (∀ q', ∃ q, wr.drewN q' = w.drewN q) := Hid.mk (fun q' => by obtain ⟨q, rfl⟩ := HW.out; exact ⟨q + q', by rw [World.drewN_drewN]⟩)
      clear hx hy
      by_cases e0 : x.1 = y.1
      · by_cases e1 : x.2.1 = y.2.1
        · by_cases e2 : x.2.2.toList = y.2.2.toList
          · have hxy : x = y := Prod.ext e0 (Prod.ext e1 (ba_toList e2))
            have HE := Hid.mk (show vs[k] = vs'[k] by rw [HXY.out.1, HXY.out.2]; exact hxy)
            subst hxy
            clear e0 e1 e2
            go_wp2
            go_quiet (fail)
            go_wp2
            go_roundw
            case rel =>
              refine ⟨k + 1, by omega, by go_num, Hid.mk fun q h h' hq => ?_, Hid.mk (HW2.out _)⟩
              rcases Nat.lt_or_ge q k with hqk | hqk
              · exact HA.out q h h' hqk
              · obtain rfl : q = k := by omega
                exact HE.out
            case measure => simp [intOf]; omega
          · have e0' : (x.1 == y.1) = true := by simp [e0]
            have e1' : (x.2.1 == y.2.1) = true := by simp [e1]
            have e2' : (x.2.2.toList == y.2.2.toList) = false := by simp [e2]
            have HF := Hid.mk (HNE.out (by rintro rfl; exact e2 rfl))
            go_wp2
            go_quiet (fail)
            go_wp2
            all_goals go_ret
            all_goals exact ⟨by rw [HF.out]; rfl, HW2.out _⟩
        · have e0' : (x.1 == y.1) = true := by simp [e0]
          have e1' : (x.2.1 == y.2.1) = false := by simp [e1]
          have HF := Hid.mk (HNE.out (by rintro rfl; exact e1 rfl))
          go_wp2
          go_quiet (fail)
          go_wp2
          all_goals go_ret
          all_goals exact ⟨by rw [HF.out]; rfl, HW2.out _⟩
      · have e0' : (x.1 == y.1) = false := by simp [e0]
        have HF := Hid.mk (HNE.out (by rintro rfl; exact e0 rfl))
        go_wp2
        go_quiet (fail)
        go_wp2
        all_goals go_ret
        all_goals exact ⟨by rw [HF.out]; rfl, HW2.out _⟩
    · have hkn : k = n := by omega
      have heq : vs = vs' := List.ext_getElem (by rw [HN.out.1, HN.out.2]) fun q hq hq' => HA.out q hq hq' (by have := HN.out.1; omega)
      have HF := Hid.mk (decide_eq_true heq)
      clear heq
      go_wp2
      go_ret
      exact ⟨by rw [HF.out]; rfl, HW.out⟩
end Go.Proofs.YtccbjhaebajamaaGreatDoor

namespace Go.Proofs.YtccbjhaebajamaaGreatDoor
open Go.RowKit
open Go.Sort (grow)

/-- How often a row is there. -/
def cntR (qs : List (List Vl)) (r : List Vl) : Nat := (qs.filter (fun q => decide (q = r))).length
theorem cnt_step (qs : List (List Vl)) (r : List Vl) (k : Nat) (h : k < qs.length) : cntR (qs.take (k + 1)) r = cntR (qs.take k) r + if qs[k] = r then 1 else 0 := by
  unfold cntR
  rw [List.take_succ_eq_append_getElem h, List.filter_append, List.length_append]
  by_cases e : qs[k] = r
  · rw [if_pos e, List.filter_cons_of_pos (by simpa using e)]; rfl
  · rw [if_neg e, List.filter_cons_of_neg (by simpa using e)]; rfl
theorem cnt_le (qs : List (List Vl)) (r : List Vl) : cntR qs r ≤ qs.length := List.length_filter_le _ _
theorem cnt_same {lt : List Vl → List Vl → Bool} (ho : Stb.Ord lt) {a b : List (List Vl)} (h : Stb.Same lt a b) (r : List Vl) : cntR a r = cntR b r := (h.filter _).len ho

set_option maxHeartbeats 3200000 in
set_option maxRecDepth 100000 in
theorem sort3_any (lb lo lc tb ib i rb ro rc m : Nat) (qs rs : List (List Vl)) (w : World) (hlb : lb < w.heap.size) (hl : RowsAt w lb lo qs) (ht : w.cell? ⟨tb, 1, none⟩ = some (.slice (some ⟨rb, ro, none⟩) rs.length rc)) (htb : tb < w.heap.size) (hrb : rb < w.heap.size) (hr : RowsAt w rb ro rs) (hi : w.cell? ⟨ib, 0, none⟩ = some (.int .i64 i)) (hib : ib < w.heap.size) (hil : i < rs.length) (hm : ∀ r ∈ qs, r.length = m) (hm' : ∀ r ∈ rs, r.length = m) (h1 : 1 ≤ m) (h6 : m ≤ 100) (hq : qs.length ≤ 100) (hrl : rs.length ≤ 100) :
    Calls Tryz.prog 20 #[.slice (some ⟨lb, lo, none⟩) qs.length lc, .pointer (some ⟨tb, 0, none⟩), .pointer (some ⟨ib, 0, none⟩)] w fun e w' => e = .returned (.int .i64 (cntR qs rs[i])) ∧ ∃ q os', w' = grow (w.drewN q) os' := by
  have mixed : Tryz.prog.follows .mixedOrders = true := by kernel_rfl
  obtain ⟨r, hri⟩ : ∃ r, rs[i] = r := ⟨_, rfl⟩
  obtain ⟨u', hu', a', c', rfl, -, hor'⟩ := hr i hil
  have hrm : r.length = m := hri ▸ hm' _ (List.getElem_mem hil)
  rw [hri] at hu' hor' ⊢
  obtain ⟨yb, yo, rfl, hyl, hyat⟩ : ∃ b o, a' = some ⟨b, o, none⟩ ∧ b < w.heap.size ∧ ValsAt w b o r := by
    rcases hor' with h | h
    · rw [h] at hrm; simp at hrm; omega
    · exact h
  have HX : Aside (RowsAt w lb lo qs ∧ ValsAt w yb yo r ∧ (∀ r ∈ qs, r.length = m) ∧ r.length = m) := ⟨hl, hyat, hm, hrm⟩
  have H0 : Aside (∃ q os, w = grow (w.drewN q) os) := ⟨0, #[], by rw [Go.Sort.grow_empty]; rfl⟩
  clear hl hr hm hm' hor' hyat hri
  have hilz : (i : Int) < (rs.length : Int) := by omega
  go_enter Tryz.func20, Tryz.ntmps20
  go_wp2
  go_loopg [5, 6] qs.length (fun g1 vn vk wr => ∃ (n k : Nat), vn = .int .i64 n ∧ vk = .int .i64 k ∧ k ≤ qs.length ∧ n ≤ k ∧ qs.length - k ≤ g1 ∧ Aside (∃ q os, wr = grow (w.drewN q) os) ∧ Aside (n = cntR (qs.take k) r))
  case atStart => exact ⟨0, 0, rfl, rfl, Nat.zero_le _, Nat.le_refl _, by omega, H0, (show 0 = cntR (qs.take 0) r by simp [cntR])⟩
  case round =>
    clear H0
    obtain ⟨n, k, rfl, rfl, hkl, hnk, hg, HW, HC⟩ := hrel
    have hws : w.heap.size ≤ wr.heap.size := by obtain ⟨q, os, e⟩ := HW.out; rw [e, size_grown]; omega
    have CG : Aside (∀ (a : Addr) (v : Value), a.block < w.heap.size → w.cell? a = some v → wr.cell? a = some v) := by
      intro a v h1 h2
      obtain ⟨q, os, e⟩ := HW.out
      rw [e]
      exact cell_grown h1 h2 q os
    by_cases hlt : k < qs.length
    · obtain ⟨hql, hyv, hqm, hrm⟩ := HX.out
      obtain ⟨u, hu, a, c, rfl, -, hor⟩ := hql k hlt
      have hxm : qs[k].length = m := hqm _ (List.getElem_mem hlt)
      obtain ⟨xb, xo, rfl, hxl, hxat⟩ : ∃ b o, a = some ⟨b, o, none⟩ ∧ b < w.heap.size ∧ ValsAt w b o qs[k] := by
        rcases hor with h | h
        · rw [h] at hxm; simp at hxm; omega
        · exact h
      have HST : Aside (cntR (qs.take (k + 1)) r = n + if qs[k] = r then 1 else 0) := (show cntR (qs.take (k + 1)) r = _ by rw [cnt_step qs r k hlt, ← HC.out])
      rw [hxm] at hu
      have EQ : Aside (∀ (q : Nat) (os : Array Obj), Calls Tryz.prog 21 #[.slice (some ⟨xb, xo, none⟩) m c, .slice (some ⟨yb, yo, none⟩) m c'] (grow (wr.drewN q) os) fun e w' => e = .returned (.bool (decide (qs[k] = r))) ∧ ∃ q' os', w' = grow ((grow (wr.drewN q) os).drewN q') os') := by
        intro q os
        have hcell : ∀ (a : Addr) (v : Value), a.block < w.heap.size → w.cell? a = some v → (grow (wr.drewN q) os).cell? a = some v := fun a v h1 h2 => cell_grown (by omega) (CG.out a v h1 h2) q os
        refine (eqVals_in xb xo c yb yo c' m qs[k] r (grow (wr.drewN q) os) hxm hrm h6 (by rw [size_grown]; omega) (by rw [size_grown]; omega) (fun j hj => ?_) (fun j hj => ?_)).mono ?_
        · obtain ⟨z0, z1, z2⟩ := hxat j hj
          exact ⟨hcell _ _ hxl z0, hcell _ _ hxl z1, hcell _ _ hxl z2⟩
        · obtain ⟨z0, z1, z2⟩ := hyv j hj
          exact ⟨hcell _ _ hyl z0, hcell _ _ hyl z1, hcell _ _ hyl z2⟩
        · rintro e w' ⟨rfl, q', rfl⟩
          exact ⟨rfl, q', #[], by rw [Go.Sort.grow_empty]⟩
      have X0 := cell_grown (by show lb < _; omega) (CG.out ⟨lb, lo + k, none⟩ _ hlb hu)
      have X1 := cell_grown (by show tb < _; omega) (CG.out ⟨tb, 1, none⟩ _ htb ht)
      have X2 := cell_grown (by show ib < _; omega) (CG.out ⟨ib, 0, none⟩ _ hib hi)
      rw [hrm] at hu'
      have X3 := cell_grown (by show rb < _; omega) (CG.out ⟨rb, ro + i, none⟩ _ hrb hu')
      have HU : Aside (w.cell? ⟨rb, ro + i, none⟩ = some (.slice (some ⟨yb, yo, none⟩) m c')) := hu'
      clear hql hyv hqm hrm hu hu' hor hxat hxm hxl HC
      obtain ⟨bb, hbb⟩ : ∃ bb, decide (qs[k] = r) = bb := ⟨_, rfl⟩
      have HBB : Aside (decide (qs[k] = r) = bb) := hbb
      rw [hbb] at EQ
      clear hbb
      cases bb
      · have HV : Aside (n = cntR (qs.take (k + 1)) r) := (show n = _ by rw [HST.out, if_neg (of_decide_eq_false HBB.out)]; rfl)
        go_wp2_with fail
        go_quiet_grown (first | (go_at_call 21; refine Calls.grown_of (EQ.out _ _)))
        have HW2 : Aside (∃ q os, grow (wr.drewN nq) osq = grow (w.drewN q) os) := by
          obtain ⟨q, os, e⟩ := HW.out
          rw [e]
          exact ⟨q + nq, os ++ osq, by show grow (grow ((w.drewN q).drewN nq) os) osq = _; rw [Go.Sort.grow_grow, World.drewN_drewN]⟩
        clear X0 X1 X2 X3 EQ
        generalize grow (wr.drewN nq) osq = w2 at HW2 ⊢
        go_wp2
        go_roundg (qs.length - (k + 1))
        case measure => omega
        case rel => exact ⟨n, k + 1, rfl, by go_num, by omega, by omega, Nat.le_refl _, HW2, HV⟩
      · have HV : Aside (n + 1 = cntR (qs.take (k + 1)) r) := (show n + 1 = _ by rw [HST.out, if_pos (of_decide_eq_true HBB.out)])
        go_wp2_with fail
        go_quiet_grown (first | (go_at_call 21; refine Calls.grown_of (EQ.out _ _)))
        have HW2 : Aside (∃ q os, grow (wr.drewN nq) osq = grow (w.drewN q) os) := by
          obtain ⟨q, os, e⟩ := HW.out
          rw [e]
          exact ⟨q + nq, os ++ osq, by show grow (grow ((w.drewN q).drewN nq) os) osq = _; rw [Go.Sort.grow_grow, World.drewN_drewN]⟩
        clear X0 X1 X2 X3 EQ
        generalize grow (wr.drewN nq) osq = w2 at HW2 ⊢
        go_wp2
        go_roundg (qs.length - (k + 1))
        case measure => omega
        case rel => exact ⟨n + 1, k + 1, by go_num, by go_num, by omega, by omega, Nat.le_refl _, HW2, HV⟩
    · have hltz : ¬ (k : Int) < (qs.length : Int) := by omega
      have HV : Aside (cntR qs r = n) := (show cntR qs r = n by rw [HC.out, List.take_of_length_le (by omega)])
      go_wp2
      go_ret
      exact ⟨by rw [HV.out]; rfl, HW.out⟩
end Go.Proofs.YtccbjhaebajamaaGreatDoor

namespace Go.Proofs.YtccbjhaebajamaaGreatDoor
open Go.RowKit

theorem sort_right {cs : List Cl} {rs : List (List Vl)} (ks : List Nat) (hr : rightB cs rs = true) : rightB cs (sortR ks rs) = true := by
  obtain ⟨h1, h2, h3⟩ := right_cols hr
  unfold rightB
  rw [h1]
  simp only [Bool.true_and, Bool.and_eq_true, decide_eq_true_eq, List.all_eq_true]
  refine ⟨by rw [sortR_len]; exact h2, fun r hm => h3 r ?_⟩
  exact (Stb.sortL_mem (ordR ks)).1 hm
theorem sort_twice (ks : List Nat) (rs : List (List Vl)) : sortR ks (sortR ks rs) = sortR ks rs := (Stb.sortL_is (ordR ks) (Stb.sortL_ok (ordR ks) rs).1 (Stb.Same.refl _ _)).symm
theorem sort_filter (ks : List Nat) (rs : List (List Vl)) (p : List Vl → Bool) : (sortR ks rs).filter p = sortR ks (rs.filter p) :=
  Stb.sortL_is (ordR ks) ((Stb.sortL_ok (ordR ks) rs).1.filter p) ((Stb.sortL_ok (ordR ks) rs).2.filter p)
theorem sort_cnt (ks : List Nat) (rs : List (List Vl)) (r : List Vl) : cntR (sortR ks rs) r = cntR rs r := (cnt_same (ordR ks) (Stb.sortL_ok (ordR ks) rs).2 r).symm
/-- The first place that a table is sorted by. -/
theorem sort_first {cs : List Cl} {ss : List ByteArray} (he : listErr cs ss = 0) : ∃ k ks nm ss', placesN cs ss = k :: ks ∧ ss = nm :: ss' ∧ placeI cs nm.data.toList = (k : Int) ∧ k < cs.length := by
  obtain ⟨l0, l6, hall⟩ := listErr_0 he
  cases ss with
  | nil => simp at l0
  | cons nm ss' =>
    obtain ⟨k, hk⟩ := hall nm (by simp)
    refine ⟨k, placesN cs ss', nm, ss', ?_, rfl, ?_, place_some hk⟩
    · simp [placesN, hk]
    · rw [placeI, hk]
theorem sort_step {k : Nat} {ks : List Nat} {rs : List (List Vl)} (i : Nat) (hi : i + 1 < (sortR (k :: ks) rs).length) : lessV (vAt ((sortR (k :: ks) rs)[i + 1]) k) (vAt ((sortR (k :: ks) rs)[i]'(by omega)) k) = false := by
  have h := List.pairwise_iff_getElem.1 (Stb.sortL_ok (ordR (k :: ks)) rs).1 i (i + 1) (by show i < (sortR (k :: ks) rs).length; omega) hi (by omega)
  have h' := of_decide_eq_false (show decide (cmpR (k :: ks) ((sortR (k :: ks) rs)[i + 1]) ((sortR (k :: ks) rs)[i]'(by omega)) < 0) = false from h)
  rw [cmpR] at h'
  cases e : lessV (vAt ((sortR (k :: ks) rs)[i + 1]) k) (vAt ((sortR (k :: ks) rs)[i]'(by omega)) k) with
  | false => rfl
  | true => rw [if_pos e] at h'; exact absurd (by decide) h'
theorem filt_sort {j : Jb} {cs : List Cl} {rs : List (List Vl)} (ks : List Nat) (hr : rightB cs rs = true) : filtNo j (cs, sortR ks rs) = filtNo j (cs, rs) := by
  unfold filtNo
  rw [if_neg (by rw [sort_right ks hr]; decide), if_neg (by rw [hr]; decide)]
/-- The row of a table, where it lies. -/
theorem row_at {w : World} {b o i m : Nat} {rs : List (List Vl)} (h : RowsAt w b o rs) (hi : i < rs.length) (hm : rs[i].length = m) (h1 : 1 ≤ m) : ∃ xb xo xc, w.cell? ⟨b, o + i, none⟩ = some (.slice (some ⟨xb, xo, none⟩) m xc) ∧ xb < w.heap.size ∧ ValsAt w xb xo rs[i] := by
  obtain ⟨u, hu, a, c, rfl, -, hor⟩ := h i hi
  rw [hm] at hu
  rcases hor with h | ⟨xb, xo, rfl, hl, hat⟩
  · rw [h] at hm; simp at hm; omega
  · exact ⟨xb, xo, c, hu, hl, hat⟩
theorem rowsS_at {w : World} {v : Value} {rs : List (List Vl)} (h : RowsIs w v rs) (h0 : 0 < rs.length) : ∃ b o c, v = .slice (some ⟨b, o, none⟩) rs.length c ∧ b < w.heap.size ∧ RowsAt w b o rs := by
  obtain ⟨a, c, rfl, hor⟩ := h
  rcases hor with h | ⟨b, o, rfl, hl, hat⟩
  · rw [h] at h0; simp at h0
  · exact ⟨b, o, c, rfl, hl, hat⟩
def jSrt (v : Value) : Jb := ⟨0, 4, .slice none 0 0, .slice none 0 0, v, ⟨#[]⟩, (⟨#[]⟩, 0, 0, ⟨#[]⟩), (⟨#[]⟩, 0, 0, ⟨#[]⟩), 0⟩
def Jb.fil (j : Jb) : Jb := { j with code := 1 }
/-- What is kept in place all along. -/
def SttS (w W : World) (b7 : Nat) (j : Jb) (cv vc vr : Value) : Prop := W.cell? ⟨w.heap.size, 0, none⟩ = some cv ∧ JobAt W (w.heap.size + 1) j ∧ JobFree W (w.heap.size + 1) ∧ W.cell? ⟨w.heap.size + 1 + 1, 0, none⟩ = some vc ∧ W.cell? ⟨w.heap.size + 1 + 1, 1, none⟩ = some vr ∧ JobAt W b7 (jSrt cv) ∧ w.heap.size + 1 + 1 < W.heap.size ∧ b7 < W.heap.size ∧ Below w.heap.size w W
theorem SttS.below {w W W' : World} {b7 : Nat} {j : Jb} {cv vc vr : Value} (h : SttS w W b7 j cv vc vr) (hb : Below W.heap.size W W') : SttS w W' b7 j cv vc vr := by
  obtain ⟨c, h1, h2, c0, c1, h3, z1, z2, h4⟩ := h
  have hs := hb.size
  exact ⟨(hb.cell (p := ⟨w.heap.size, 0, none⟩) (by show w.heap.size < _; omega)).trans c, h1.below hb (by omega), h2.below hb (by omega), (hb.cell (p := ⟨w.heap.size + 1 + 1, 0, none⟩) z1).trans c0, (hb.cell (p := ⟨w.heap.size + 1 + 1, 1, none⟩) z1).trans c1, h3.below hb z2, by omega, by omega, bel_then h4 hb⟩
theorem SttS.fil {w W : World} {b7 : Nat} {j : Jb} {cv vc vr : Value} (h : SttS w W b7 j cv vc vr) (hb : w.heap.size + 1 < b7) : SttS w (W.setCell ⟨w.heap.size + 1, 1, none⟩ (.int .i64 1)) b7 j.fil cv vc vr := by
  obtain ⟨c, h1, h2, c0, c1, h3, z1, z2, h4⟩ := h
  refine ⟨(World.cell?_setCell_other _ _ _ _ (by intro e; simp only [Addr.mk.injEq] at e; omega)).trans c, h1.put (j' := j.fil) 1 _ (by decide) rfl, h2.put, (World.cell?_setCell_other _ _ _ _ (by intro e; simp only [Addr.mk.injEq] at e; omega)).trans c0, (World.cell?_setCell_other _ _ _ _ (by intro e; simp only [Addr.mk.injEq] at e; omega)).trans c1, fun k v hk => (World.cell?_setCell_other _ _ _ _ (by intro e; simp only [Addr.mk.injEq] at e; omega)).trans (h3 k v hk), by simpa using z1, by simpa using z2, h4.setCell (by show w.heap.size ≤ w.heap.size + 1; omega) _⟩
/-- A table that was made, and the box that it lies in. -/
def TabN (w : World) (B b : Nat) (cs : List Cl) (rs : List (List Vl)) : Prop := ∃ x y, w.cell? ⟨b, 0, none⟩ = some x ∧ w.cell? ⟨b, 1, none⟩ = some y ∧ b < w.heap.size ∧ ColsNew w B x cs ∧ RowsNew w B y rs
theorem TabN.below {w w' : World} {B b : Nat} {cs : List Cl} {rs : List (List Vl)} (h : TabN w B b cs rs) (hb : Below w.heap.size w w') : TabN w' B b cs rs := by
  obtain ⟨x, y, h0, h1, hl, hc, us, hr, hh⟩ := h
  exact ⟨x, y, (hb.cell (p := ⟨b, 0, none⟩) hl).trans h0, (hb.cell (p := ⟨b, 1, none⟩) hl).trans h1, Nat.lt_of_lt_of_le hl hb.size, hc.below hb, us, owns_below hr hb, hh.below hb⟩
theorem TabN.put {w : World} {B b M k : Nat} {v : Value} {cs : List Cl} {rs : List (List Vl)} (h : TabN w B b cs rs) (hM : M < B) (hb : b ≠ M) : TabN (w.setCell ⟨M, k, none⟩ v) B b cs rs := by
  obtain ⟨x, y, h0, h1, hl, hc, us, hr, hh⟩ := h
  exact ⟨x, y, (World.cell?_setCell_other _ _ _ _ (by intro e; simp only [Addr.mk.injEq] at e; exact hb e.1.symm)).trans h0, (World.cell?_setCell_other _ _ _ _ (by intro e; simp only [Addr.mk.injEq] at e; exact hb e.1.symm)).trans h1, by simpa using hl, ⟨ownsRow_setCell_below hc.1 hM _, hc.2⟩, us, ownsRow_setCell_below hr hM _, HeldRows.set hh hM⟩
theorem tabN_laid {w2 : World} {B b : Nat} {x y : Value} {cs : List Cl} {rs : List (List Vl)} {t : TypeId} (hc : ColsNew w2 B x cs) (hr : RowsNew w2 B y rs) (hb : w2.heap.size = b) : TabN (w2.alloc (.cells #[x, y] t)) B b cs rs := by
  subst hb
  obtain ⟨us, h1, h2⟩ := hr
  exact ⟨x, y, by simp, by simp, by simp, hc.below (below_box _ _), us, owns_below h1 (below_box _ _), h2.below (below_box _ _)⟩
theorem TabN.is {w : World} {B b : Nat} {cs : List Cl} {rs : List (List Vl)} (h : TabN w B b cs rs) : TabIs w b cs rs := by
  obtain ⟨x, y, h0, h1, hl, hc, hr⟩ := h
  exact ⟨x, y, h0, h1, hl, hc.is, hr.is⟩
end Go.Proofs.YtccbjhaebajamaaGreatDoor

namespace Go.Proofs.YtccbjhaebajamaaGreatDoor
open Go.RowKit
open Go.Sort (grow)

set_option maxRecDepth 100000 in
set_option maxHeartbeats 12800000 in
theorem sorts_bad (cv : Value) (ss : List ByteArray) (j : Jb) (js : List ByteArray) (vc vr : Value) (cs : List Cl) (rs : List (List Vl)) (w : World) (hss : StrsIs w cv ss) (hsc : StrsC w cv ss) (hjs : StrsIs w j.cols js) (hjl : js.length ≤ maxLen) (hsz : j.sized) (hc : ColsIs w vc cs) (hr : RowsIs w vr rs) (hE : Env w) (hYY : ¬ projNo (cs, rs) ss = 0) :
    Calls Tryz.prog 5 #[cv, .agg j.cells, .agg #[vc, vr]] w fun e w' => e = .returned (.bool true) ∧ Below w.heap.size w w' := by
  have mixed : Tryz.prog.follows .mixedOrders = true := by kernel_rfl
  have hmf : ∀ (fn : Fn) (first cap : Array Value) (w : World), (Instr.makeFunc fn first cap).run Tryz.prog w = .ok (.func fn first cap) w := fun _ _ _ _ => rfl
  have HSH := Hid.mk (fun W (hW : Below w.heap.size w W) => short_any j js W (hjs.below hW) hsz hjl)
  have HS1 := Hid.mk (fun W (hW : Below w.heap.size w W) => small_any vc vr cs rs W (hc.below hW) (hr.below hW))
  have HCF := Hid.mk (fun W (hW : Below w.heap.size w W) (h8 : ss.length ≤ 100) => hasS1_is cv ss W (hss.below hW) h8)
  have HDN := Hid.mk (fun W (hW : Below w.heap.size w W) => done_any W (hE.below hW))
  have hx : j.fil.right.2.2.2.size ≤ maxLen := hsz.2.2.2.2
  have hF' := fun (xc xr : Value) (ds : List Cl) (qs : List (List Vl)) (W : World) (H : Nat) (hH : W.heap.size = H) (h1 : ColsIs W xc ds) (h2 : RowsIs W xr qs) => one_filt j.fil xc xr ds qs W H hH h1 h2 rfl hx
  have hS' := fun (xc xr : Value) (ds : List Cl) (qs : List (List Vl)) (W : World) (H : Nat) (hW : Below w.heap.size w W) (hH : W.heap.size = H) (h1 : ColsIs W xc ds) (h2 : RowsIs W xr qs) => one_sort (jSrt cv) ss xc xr ds qs W H hH h1 h2 rfl (hsc.below hW)
  have HCR := Hid.mk (And.intro hc (And.intro hr hsc))
  have HYY := Hid.mk hYY
  clear hYY
  have hJ0 : JobAt (((w.alloc (.cells #[cv] 30)).alloc (.cells j.cells 36)).alloc (.cells #[vc, vr] 25)) (w.heap.size + 1) j := by
    have := (job_new (w.alloc (.cells #[cv] 30)) j 36).below (below_box _ (.cells #[vc, vr] 25)) (by simp)
    simpa using this
  have hF0 : JobFree (((w.alloc (.cells #[cv] 30)).alloc (.cells j.cells 36)).alloc (.cells #[vc, vr] 25)) (w.heap.size + 1) := by
    have := (JobFree.new (w.alloc (.cells #[cv] 30)) (.cells j.cells 36) _ _ rfl).below (below_box _ (.cells #[vc, vr] 25)) (by simp)
    simpa using this
  obtain ⟨va, vcp, rfl, -⟩ := hc
  obtain ⟨ra, rcp, rfl, -⟩ := hr
  obtain ⟨cva, cvc, rfl, hcvl, hcml, -⟩ := hsc
  have HF : Hid (∀ (xc xr : Value) (ds : List Cl) (qs : List (List Vl)) (W : World) (H : Nat), W.heap.size = H → ColsIs W xc ds → RowsIs W xr qs → Calls Tryz.prog 9 #[.agg #[.int .i64 j.at_, .int .i64 1, j.outs, j.ins, j.cols, .string j.op, .string j.left.1, .int .i64 j.left.2.1, .int .i64 j.left.2.2.1, .string j.left.2.2.2, .string j.right.1, .int .i64 j.right.2.1, .int .i64 j.right.2.2.1, .string j.right.2.2.2, .int .i64 j.retry], .slice (some ⟨H, 0, none⟩) 1 1] (W.alloc (.cells #[xc, xr] 25)) fun e w' => OneRes e w' W.heap.size (filtNo j.fil (ds, qs) = 0) (ds, qs.filter (testB ds j.fil)) ∧ Below (W.alloc (.cells #[xc, xr] 25)).heap.size (W.alloc (.cells #[xc, xr] 25)) w') := Hid.mk hF'
  have HSO : Hid (∀ (xc xr : Value) (ds : List Cl) (qs : List (List Vl)) (W : World) (H : Nat), Below w.heap.size w W → W.heap.size = H → ColsIs W xc ds → RowsIs W xr qs → Calls Tryz.prog 9 #[.agg #[.int .i64 0, .int .i64 4, .slice none 0 0, .slice none 0 0, .slice cva ss.length cvc, .string ⟨#[]⟩, .string ⟨#[]⟩, .int .i64 0, .int .i64 0, .string ⟨#[]⟩, .string ⟨#[]⟩, .int .i64 0, .int .i64 0, .string ⟨#[]⟩, .int .i64 0], .slice (some ⟨H, 0, none⟩) 1 1] (W.alloc (.cells #[xc, xr] 25)) fun e w' => OneRes e w' W.heap.size (projNo (ds, qs) ss = 0) (ds, sortR (placesN ds ss) qs) ∧ Below (W.alloc (.cells #[xc, xr] 25)).heap.size (W.alloc (.cells #[xc, xr] 25)) w') := Hid.mk hS'
  clear hF' hS'
  unfold Jb.cells at HSH hJ0 hF0 ⊢
  have HJ0 := Hid.mk (And.intro hJ0 hF0)
  have HN := Hid.mk hcml
  unfold maxLen at hcml
  clear hJ0 hF0 hjs hjl hsz hE hss hx hcvl
  go_enter Tryz.func5, Tryz.ntmps5
  go_wp2_with fail
  refine (HSH.out _ (bel_box (bel_box (below_box _ _) _) _)).mono ?_
  rintro e w1 ⟨⟨bb, rfl⟩, hb1⟩
  have hb01 := bel_then (bel_box (bel_box (below_box _ _) _) _) hb1
  have hJ1 := HJ0.out.1.below hb1 (by simp)
  have hF1 := HJ0.out.2.below hb1 (by simp)
  have s0 : w1.cell? ⟨w.heap.size, 0, none⟩ = some (.slice cva ss.length cvc) := (hb1.cell (p := ⟨w.heap.size, 0, none⟩) (by simp; omega)).trans (((below_box _ _).cell (p := ⟨w.heap.size, 0, none⟩) (by simp; omega)).trans (((below_box _ _).cell (p := ⟨w.heap.size, 0, none⟩) (by simp)).trans (by rw [World.cell?_alloc_at _ _ _ _ rfl]; rfl)))
  have s2 : w1.cell? ⟨w.heap.size + 1 + 1, 0, none⟩ = some (.slice va cs.length vcp) := (hb1.cell (p := ⟨w.heap.size + 1 + 1, 0, none⟩) (by simp)).trans (by rw [World.cell?_alloc_at _ _ _ _ (by simp)]; rfl)
  have s3 : w1.cell? ⟨w.heap.size + 1 + 1, 1, none⟩ = some (.slice ra rs.length rcp) := (hb1.cell (p := ⟨w.heap.size + 1 + 1, 1, none⟩) (by simp)).trans (by rw [World.cell?_alloc_at _ _ _ _ (by simp)]; rfl)
  have hz1 : w.heap.size + 1 + 1 < w1.heap.size := by have := hb1.size; simp at this; omega
  have H1 := Hid.mk (And.intro hJ1 (And.intro hF1 hb01))
  clear hb1 hb01 hJ1 hF1 HJ0
  cases bb
  · go_wp2
    go_ret
    exact ⟨rfl, H1.out.2.2⟩
  · go_wp2_with fail
    refine (HS1.out _ H1.out.2.2).mono ?_
    rintro e w2 ⟨rfl, hb2⟩
    have r0 := (hb2.cell (p := ⟨w.heap.size, 0, none⟩) (by show w.heap.size < _; omega)).trans s0
    have HB2 := Hid.mk (And.intro hb2 (bel_then H1.out.2.2 hb2))
    clear hb2
    generalize smallB cs rs = g1 at *
    cases g1
    · go_wp2
      go_ret
      exact ⟨rfl, HB2.out.2⟩
    · by_cases h8 : ss.length ≤ 8
      · have h8' : ¬ ((8 : Int) < (ss.length : Int)) := by omega
        have HH8 := Hid.mk h8
        clear h8
        go_wp2_with fail
        refine (HCF.out _ HB2.out.2 (by have := HH8.out; omega)).mono ?_
        rintro e w3' ⟨⟨bb, rfl⟩, rfl⟩
        cases bb
        · go_wp2_with (go_at_call 8; fail)
          refine (HDN.out _ HB2.out.2).mono ?_
          rintro e w4 ⟨rfl, hb4⟩
          have hb14 := bel_then HB2.out.1 hb4
          have hz4 : w.heap.size + 1 + 1 < w4.heap.size := by have := hb14.size; omega
          have k0 := (hb14.cell (p := ⟨w.heap.size, 0, none⟩) (by show w.heap.size < _; omega)).trans s0
          have k2 := (hb14.cell (p := ⟨w.heap.size + 1 + 1, 0, none⟩) hz1).trans s2
          have k3 := (hb14.cell (p := ⟨w.heap.size + 1 + 1, 1, none⟩) hz1).trans s3
          have H4 := Hid.mk (And.intro (H1.out.1.below hb14 (by omega)) (And.intro (H1.out.2.1.below hb14 (by omega)) (bel_then HB2.out.2 hb4)))
          clear hb4 hb14 s0 s2 s3 r0 hz1 H1 HB2 HCF HDN HS1 HSH
          go_wp2_with (go_at_call 9; fail)
          obtain ⟨W0, hW0⟩ : ∃ x, x = w4.alloc (.cells #[.int .i64 0, .int .i64 4, .slice none 0 0, .slice none 0 0, .slice cva ss.length cvc, .string ⟨#[]⟩, .string ⟨#[]⟩, .int .i64 0, .int .i64 0, .string ⟨#[]⟩, .string ⟨#[]⟩, .int .i64 0, .int .i64 0, .string ⟨#[]⟩, .int .i64 0] 36) := ⟨_, rfl⟩
          rw [← hW0]
          have hB0 : Below w4.heap.size w4 W0 := by rw [hW0]; exact below_box _ _
          have hH0 : W0.heap.size = w4.heap.size + 1 := by rw [hW0]; simp
          have hST : SttS w W0 w4.heap.size j (.slice cva ss.length cvc) (.slice va cs.length vcp) (.slice ra rs.length rcp) := ⟨(hB0.cell (p := ⟨w.heap.size, 0, none⟩) (by show w.heap.size < _; omega)).trans k0, H4.out.1.below hB0 (by omega), H4.out.2.1.below hB0 (by omega), (hB0.cell (p := ⟨w.heap.size + 1 + 1, 0, none⟩) hz4).trans k2, (hB0.cell (p := ⟨w.heap.size + 1 + 1, 1, none⟩) hz4).trans k3, by rw [hW0]; exact job_new w4 (jSrt (.slice cva ss.length cvc)) _, by omega, by omega, bel_then H4.out.2.2 hB0⟩
          have ST0 := Hid.mk hST
          clear hW0 hB0 hST k0 k2 k3 H4
          have hb7 : w.heap.size + 1 < w4.heap.size := by omega
          clear hz4
          generalize w4.heap.size = b7 at *
          refine (HSO.out _ _ cs rs W0 _ ST0.out.2.2.2.2.2.2.2.2 hH0 (HCR.out.1.below ST0.out.2.2.2.2.2.2.2.2) (HCR.out.2.1.below ST0.out.2.2.2.2.2.2.2.2)).mono ?_
          rintro e w5 ⟨hres, HB⟩
          rcases hres with ⟨hok, x5, y5, rfl, hcn, hrn⟩ | ⟨hno, rfl⟩
          · exact absurd hok HYY.out
          · go_wp2
            go_ret
            exact ⟨rfl, bel_box (bel_then (bel_then ST0.out.2.2.2.2.2.2.2.2 (below_box _ _)) HB) _⟩
        · go_wp2
          go_ret
          exact ⟨rfl, HB2.out.2⟩
      · have h8' : (8 : Int) < (ss.length : Int) := by omega
        clear h8
        go_wp2
        go_ret
        exact ⟨rfl, HB2.out.2⟩
end Go.Proofs.YtccbjhaebajamaaGreatDoor

