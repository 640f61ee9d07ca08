import Derived.Test.YtjceppinfjbegaaGreatDoorJonB
import Derived.Test.YtjceppinfjbegaaGreatDoorSrtE
set_option linter.unusedSimpArgs false
set_option linter.unusedVariables false
namespace Go.Proofs.YtjceppinfjbegaaGreatDoor
open Go.RowKit

/-- A row, with its room. -/
def RowC (w : World) (v : Value) (vs : List Vl) : Prop := ∃ a c, v = .slice a vs.length c ∧ vs.length ≤ c ∧ (∀ x ∈ vs, x.2.2.size ≤ maxLen) ∧ (vs = [] ∨ ∃ b o, a = some ⟨b, o, none⟩ ∧ b < w.heap.size ∧ ValsAt w b o vs)
/-- Rows, with their rooms. -/
def RowsC (w : World) (v : Value) (rs : List (List Vl)) : Prop := ∃ a c, v = .slice a rs.length c ∧ (rs = [] ∨ ∃ b o, a = some ⟨b, o, none⟩ ∧ b < w.heap.size ∧ ∀ (j : Nat) (h : j < rs.length), ∃ u, w.cell? ⟨b, o + j, none⟩ = some u ∧ RowC w u rs[j])
theorem RowC.below {w w' : World} {v : Value} {vs : List Vl} (h : RowC w v vs) (hb : Below w.heap.size w w') : RowC w' v vs := by
  obtain ⟨a, c, e, hc, hs, h⟩ := h
  refine ⟨a, c, e, hc, hs, ?_⟩
  rcases h with h | ⟨b, o, e2, hl, hat⟩
  · exact Or.inl h
  · exact Or.inr ⟨b, o, e2, Nat.lt_of_lt_of_le hl hb.size, hat.below hb hl⟩
theorem RowsC.below {w w' : World} {v : Value} {rs : List (List Vl)} (h : RowsC w v rs) (hb : Below w.heap.size w w') : RowsC w' v rs := by
  obtain ⟨a, c, e, h⟩ := h
  refine ⟨a, c, e, ?_⟩
  rcases h with h | ⟨b, o, e2, hl, hat⟩
  · exact Or.inl h
  · refine Or.inr ⟨b, o, e2, Nat.lt_of_lt_of_le hl hb.size, fun j hj => ?_⟩
    obtain ⟨u, hu, hr⟩ := hat j hj
    exact ⟨u, (hb.cell (p := ⟨b, o + j, none⟩) hl).trans hu, hr.below hb⟩
theorem RowC.is {w : World} {v : Value} {vs : List Vl} (h : RowC w v vs) : RowIs w v vs := by
  obtain ⟨a, c, e, -, hs, h⟩ := h
  exact ⟨a, c, e, hs, h⟩
theorem RowsC.is {w : World} {v : Value} {rs : List (List Vl)} (h : RowsC w v rs) : RowsIs w v rs := by
  obtain ⟨a, c, e, h⟩ := h
  refine ⟨a, c, e, ?_⟩
  rcases h with h | ⟨b, o, e2, hl, hat⟩
  · exact Or.inl h
  · exact Or.inr ⟨b, o, e2, hl, fun j hj => by obtain ⟨u, hu, hr⟩ := hat j hj; exact ⟨u, hu, hr.is⟩⟩
theorem rowsC_at {w : World} {v : Value} {rs : List (List Vl)} {j m : Nat} (h : RowsC w v rs) (hj : j < rs.length) (hm : rs[j].length = m) (h1 : 1 ≤ m) : ∃ b o c yb yo yc, v = .slice (some ⟨b, o, none⟩) rs.length c ∧ b < w.heap.size ∧ w.cell? ⟨b, o + j, none⟩ = some (.slice (some ⟨yb, yo, none⟩) m yc) ∧ m ≤ yc ∧ yb < w.heap.size ∧ ValsAt w yb yo rs[j] := by
  obtain ⟨a, c, rfl, h⟩ := h
  rcases h with h | ⟨b, o, rfl, hl, hat⟩
  · rw [h] at hj; simp at hj
  obtain ⟨u, hu, a', c', rfl, hc', -, h'⟩ := hat j hj
  rw [hm] at hu hc'
  rcases h' with h' | ⟨b', o', rfl, hl', hat'⟩
  · rw [h'] at hm; simp at hm; omega
  · exact ⟨b, o, c, b', o', c', rfl, hl, hu, hc', hl', hat'⟩

/-- What comes of one row. -/
def joinR (x : List Vl) (qb : List (List Vl)) (p q : Nat) : List (List Vl) := (qb.filter fun y => decide (vAt x p = vAt y q)).map fun y => besL x y q
/-- What comes of all rows. -/
def joinL (qa qb : List (List Vl)) (p q : Nat) : List (List Vl) := qa.flatMap fun x => joinR x qb p q
theorem joinR_step (x : List Vl) (qb : List (List Vl)) (p q k : Nat) (h : k < qb.length) : joinR x (qb.take (k + 1)) p q = joinR x (qb.take k) p q ++ if vAt x p = vAt qb[k] q then [besL x qb[k] q] else [] := by
  unfold joinR
  rw [List.take_succ_eq_append_getElem h, List.filter_append, List.map_append]
  by_cases e : vAt x p = vAt qb[k] q
  · rw [if_pos e, List.filter_cons_of_pos (by simpa using e)]; rfl
  · rw [if_neg e, List.filter_cons_of_neg (by simpa using e)]; rfl
theorem joinL_step (qa qb : List (List Vl)) (p q k : Nat) (h : k < qa.length) : joinL (qa.take (k + 1)) qb p q = joinL (qa.take k) qb p q ++ joinR qa[k] qb p q := by
  unfold joinL
  rw [List.take_succ_eq_append_getElem h, List.flatMap_append]
  simp
theorem joinR_len (x : List Vl) (qb : List (List Vl)) (p q : Nat) : (joinR x qb p q).length ≤ qb.length := by
  unfold joinR
  rw [List.length_map]
  exact List.length_filter_le _ _
theorem joinL_len (qa qb : List (List Vl)) (p q : Nat) : (joinL qa qb p q).length ≤ qa.length * qb.length := by
  unfold joinL
  induction qa with
  | nil => simp
  | cons x qa ih =>
    rw [List.flatMap_cons, List.length_append, List.length_cons, Nat.add_mul]
    have := joinR_len x qb p q
    omega
theorem besL_size {x y : List Vl} {k : Nat} (hx : ∀ z ∈ x, z.2.2.size ≤ maxLen) (hy : ∀ z ∈ y, z.2.2.size ≤ maxLen) : ∀ z ∈ besL x y k, z.2.2.size ≤ maxLen := by
  intro z hz
  unfold besL at hz
  rw [List.mem_append, List.mem_append] at hz
  rcases hz with (hz | hz) | hz
  · exact hx z hz
  · exact hy z (List.mem_of_mem_take hz)
  · exact hy z (List.mem_of_mem_drop hz)

theorem ba_toList' {x y : ByteArray} (h : x.toList = y.toList) : x = y := ba_ext (by rw [ByteArray.toList_eq, ByteArray.toList_eq] at h; exact h)
theorem own_drew {w : World} {B : Nat} {e : TypeId} {z n : Nat} {v : Value} {xs : List Value} (h : w.ownsRow B e z v n xs) (q : Nat) : (w.drewN q).ownsRow B e z v n xs := h
theorem held_drew {w : World} {B : Nat} {us : List Value} {rs : List (List Vl)} (h : HeldRows w B us rs) (q : Nat) : HeldRows (w.drewN q) B us rs := h
set_option maxRecDepth 100000 in
set_option maxHeartbeats 3200000 in
theorem joined_any (v v2 : Value) (qa qb : List (List Vl)) (n m p q : Nat) (w : World) (ha : RowsC w v qa) (hb : RowsC w v2 qb) (hla : ∀ r ∈ qa, r.length = n) (hlb : ∀ r ∈ qb, r.length = m) (hn1 : 1 ≤ n) (hn6 : n ≤ 50) (hm1 : 1 ≤ m) (hm6 : m ≤ 50) (hp : p < n) (hq : q < m) (h60 : qa.length ≤ 100) (h60' : qb.length ≤ 100) :
    Calls Tryz.prog 90 #[v, v2, .int .i64 p, .int .i64 q] w fun e w' => ∃ v' us, e = .returned v' ∧ w'.ownsRow w.heap.size 62 1 v' (joinL qa qb p q).length us ∧ HeldRows w' w.heap.size us (joinL qa qb p q) ∧ Below w.heap.size w w' := by
  obtain ⟨i0, hi, hz0, hz1, hz2⟩ := info_parts Tryz.infoRow
  have HA := Hid.mk (And.intro ha hla)
  have HB := Hid.mk (And.intro hb hlb)
  clear hla hlb
  obtain ⟨va, vcp, rfl, -⟩ := ha
  obtain ⟨vb, vcq, rfl, -⟩ := hb
  go_enter Tryz.func90, Tryz.ntmps90
  go_wp2
  go_loopg [9, 16] qa.length (fun g1 l i wr => ∃ (k n0 : Nat) (us : List Value), k ≤ qa.length ∧ i = .int .i64 k ∧ qa.length - k ≤ g1 ∧ wr.ownsRow w.heap.size 62 1 l n0 us ∧ Aside (HeldRows wr w.heap.size us (joinL (qa.take k) qb p q) ∧ Below w.heap.size w wr ∧ n0 = (joinL (qa.take k) qb p q).length))
  case atStart => exact ⟨0, 0, [], Nat.zero_le _, rfl, by omega, World.ownsRow_nil _ _ _ _, by simpa [joinL] using HeldRows.nil _ _, Below.refl _ _, by simp [joinL]⟩
  case round =>
    obtain ⟨k, n0, us, hk, rfl, hg, hown, HH⟩ := hrel
    obtain ⟨la, lc, rfl⟩ := own_slice hown
    have HO := Hid.mk hown
    clear hown
    by_cases hlt : k < qa.length
    · have hltz : (k : Int) < (qa.length : Int) := by omega
      have hws := HH.out.2.1.size
      obtain ⟨b1, o1, c1, xb, xo, xc, hve, hb1l, hxu, hxc, hxl, hxat⟩ := rowsC_at HA.out.1 hlt (HA.out.2 _ (List.getElem_mem hlt)) hn1
      simp only [Value.slice.injEq, true_and] at hve
      obtain ⟨rfl, rfl⟩ := hve
      have hxu' := (HH.out.2.1.cell (p := ⟨b1, o1 + k, none⟩) hb1l).trans hxu
      have HXS := Hid.mk (HA.out.2 _ (List.getElem_mem hlt))
      clear hxu
      obtain ⟨x, hxk⟩ : ∃ x, qa[k] = x := ⟨_, rfl⟩
      rw [hxk] at hxat HXS
      have HSZ : Hid (∀ z ∈ x, z.2.2.size ≤ maxLen) := by
        obtain ⟨_, _, _, h⟩ := HA.out.1
        rcases h with h | ⟨_, _, _, _, hat⟩
        · rw [h] at hlt; simp at hlt
        · obtain ⟨_, _, _, _, _, _, hs, _⟩ := hat k hlt
          rw [hxk] at hs
          exact Hid.mk hs
      have HST := Hid.mk (show joinL (qa.take (k + 1)) qb p q = joinL (qa.take k) qb p q ++ joinR x qb p q by rw [joinL_step qa qb p q k hlt, hxk])
      have HLL := Hid.mk (joinL_len (qa.take k) qb p q)
      generalize joinL (qa.take k) qb p q = J at *
      have HX := Hid.mk hxat
      have HV := Hid.mk (show vAt x p = x[p]'(by rw [HXS.out]; exact hp) from vAt_of _)
      clear hxat hxk
      have hJl : J.length ≤ 10000 := by
        have h1 := HLL.out
        rw [List.length_take] at h1
        have h2 : min k qa.length * qb.length ≤ 100 * 100 := Nat.mul_le_mul (by omega) h60'
        omega
      go_wp2
      go_loopg [9, 22] qb.length (fun g2 l i wr2 => ∃ (t n1 : Nat) (us : List Value), t ≤ qb.length ∧ i = .int .i64 t ∧ qb.length - t ≤ g2 ∧ wr2.ownsRow w.heap.size 62 1 l n1 us ∧ Aside (HeldRows wr2 w.heap.size us (J ++ joinR x (qb.take t) p q) ∧ Below w.heap.size w wr2 ∧ n1 = (J ++ joinR x (qb.take t) p q).length))
      case atStart => exact ⟨0, n0, us, Nat.zero_le _, rfl, by omega, HO.out, by simpa [joinR] using HH.out.1, HH.out.2.1, by rw [HH.out.2.2]; simp [joinR]⟩
      case round =>
        clear HO
        obtain ⟨t, n1, us2, ht, rfl, hg2, hown, HI⟩ := hrel
        obtain ⟨la2, lc2, rfl⟩ := own_slice hown
        have HO := Hid.mk hown
        clear hown
        have hws2 := HI.out.2.1.size
        have HW2 := Hid.mk HI.out.2.1
        by_cases htl : t < qb.length
        · have htlz : (t : Int) < (qb.length : Int) := by omega
          obtain ⟨b2, o2, c2, yb, yo, yc, hve, hb2l, hyu, hyc, hyl, hyat⟩ := rowsC_at HB.out.1 htl (HB.out.2 _ (List.getElem_mem htl)) hm1
          simp only [Value.slice.injEq, true_and] at hve
          obtain ⟨rfl, rfl⟩ := hve
          have hyu' := (HI.out.2.1.cell (p := ⟨b2, o2 + t, none⟩) hb2l).trans hyu
          have HYS := Hid.mk (HB.out.2 _ (List.getElem_mem htl))
          clear hyu
          have HS2 := Hid.mk (joinR_step x qb p q t htl)
          obtain ⟨y, hyk⟩ : ∃ y, qb[t] = y := ⟨_, rfl⟩
          rw [hyk] at hyat HYS HS2
          have HSY : Hid (∀ z ∈ y, z.2.2.size ≤ maxLen) := by
            obtain ⟨_, _, _, h⟩ := HB.out.1
            rcases h with h | ⟨_, _, _, _, hat⟩
            · rw [h] at htl; simp at htl
            · obtain ⟨_, _, _, _, _, _, hs, _⟩ := hat t htl
              rw [hyk] at hs
              exact Hid.mk hs
          have HVY := Hid.mk (show vAt y q = y[q]'(by rw [HYS.out]; exact hq) from vAt_of _)
          have HRL := Hid.mk (joinR_len x (qb.take t) p q)
          have hRl : (joinR x (qb.take t) p q).length ≤ 100 := by have := HRL.out; rw [List.length_take] at this; omega
          obtain ⟨e0, e1, e2⟩ := (HX.out.below HI.out.2.1 hxl) p (by rw [HXS.out]; exact hp)
          obtain ⟨f0, f1, f2⟩ := (hyat.below HI.out.2.1 hyl) q (by rw [HYS.out]; exact hq)
          have HYA := Hid.mk hyat
          obtain ⟨a, hax⟩ : ∃ a, x[p]'(by rw [HXS.out]; exact hp) = a := ⟨_, rfl⟩
          obtain ⟨b, hby⟩ : ∃ b, y[q]'(by rw [HYS.out]; exact hq) = b := ⟨_, rfl⟩
          rw [hax] at e0 e1 e2
          rw [hby] at f0 f1 f2
          have HAB := Hid.mk (show (vAt x p = vAt y q ↔ a = b) by rw [HV.out, HVY.out, hax, hby])
          generalize joinR x (qb.take t) p q = K at *
          clear hyat hyk hax hby
          have hpz : (p : Int) < (n : Int) := by omega
          have hqz : (q : Int) < (m : Int) := by omega
          have SAME : Aside (a ≠ b → joinR x (qb.take (t + 1)) p q = K) := fun hne => by rw [HS2.out, if_neg (fun h => hne (HAB.out.1 h))]; simp
          by_cases d0 : a.1 = b.1
          · by_cases d1 : a.2.1 = b.2.1
            · by_cases d2 : a.2.2.toList = b.2.2.toList
              · have hab : a = b := Prod.ext d0 (Prod.ext d1 (ba_toList' d2))
                have HJN := Hid.mk (show joinR x (qb.take (t + 1)) p q = K ++ [besL x y q] by rw [HS2.out, if_pos (HAB.out.2 hab)])
                subst hab
                clear d0 d1 d2 SAME
                have HBS := Hid.mk (fun W (hW : Below w.heap.size w W) => besideV_in xb xo xc yb yo yc q x y W (by have := hW.size; omega) (HX.out.below hW hxl) (by have := hW.size; omega) (HYA.out.below hW hyl) (by rw [HYS.out]; exact hq) (by rw [HYS.out]; exact hyc) (by rw [HXS.out]; omega) (by rw [HYS.out]; omega))
                rw [HXS.out, HYS.out] at HBS
                have HSB := Hid.mk (besL_size (k := q) HSZ.out HSY.out)
                have hKl : n1 ≤ 20000 := by have := HI.out.2.2; rw [List.length_append] at this; omega
                obtain ⟨bl, hbl⟩ : ∃ z, (besL x y q).length = z := ⟨_, rfl⟩
                have HBL := Hid.mk hbl
                rw [hbl] at HBS
                clear hbl
                go_wp2
                go_quiet (fail)
                go_wp2_with (first | (go_at_call 125; refine (HBS.out _ (below_drewN HI.out.2.1 _)).mono ?_; rintro e w1 ⟨v1, rfl, ho1, hb1⟩; obtain ⟨v1a, v1c, rfl⟩ := own_slice ho1) | (at_builtin; refine wpList_append_own _ rfl _ _ 34 rfl w.heap.size 62 i0 (.slice none 0 0) 1 24 Tryz.underlying34 hi hz0 hz1 hz2 rfl (by decide) _ _ _ rfl ((owns_below (own_drew HO.out _) hb1).alloc _) ⟨w1.heap.size, 0, none⟩ 1 1 [.slice v1a bl v1c] rfl rfl (news1 _ _ _ _ rfl) (one1s _ _ _) ?c3 ?c4 ?c5 ?_))
                case c3 => unfold maxLen; omega
                case c4 => omega
                case c5 => have h1 := hb1.size; have h2 : wr.heap.size ≤ w1.heap.size := h1; simp; omega
                intro v' w5 hown' hgrow _
                have hs1 : wr.heap.size ≤ w1.heap.size := hb1.size
                have hbw : Below w.heap.size w w1 := bel_then (below_drewN HI.out.2.1 _) hb1
                have hO1 := ((owns_below (own_drew HO.out _) hb1).alloc (.cells #[.slice v1a bl v1c] 62))
                have hbl5 : Below w.heap.size w w5 := (hbw.alloc (by omega) _).grown hgrow (by simp; omega) (fun q hq => (HO.out.lt q hq).1)
                have hH5 := (((held_drew HI.out.1 _).below hb1).below (below_box w1 (.cells #[.slice v1a bl v1c] 62))).grow hO1 hgrow
                have hu5 := (ho1.alloc (.cells #[.slice v1a bl v1c] 62)).kept hgrow (own_ne (by decide) (ho1.alloc _) hO1)
                rw [← HBL.out] at hu5
                have hH6 := hH5.snoc (own_mono (show w.heap.size ≤ wr.heap.size by omega) hu5) HSB.out
                rw [List.append_assoc, ← HJN.out] at hH6
                have HF := Hid.mk (And.intro hown' (And.intro hH6 hbl5))
                have HNL := Hid.mk (show n1 + 1 = (J ++ joinR x (qb.take (t + 1)) p q).length by rw [HI.out.2.2, HJN.out]; simp only [List.length_append, List.length_cons, List.length_nil]; omega)
                clear hown' hgrow hH6 hbl5 hH5 hu5 hO1
                go_wp2
                go_roundg (qb.length - (t + 1))
                case measure => omega
                case rel => exact ⟨t + 1, n1 + 1, _, by omega, by go_num, Nat.le_refl _, HF.out.1, by have h := HF.out.2.1; rw [HBL.out] at h; exact h, HF.out.2.2, HNL.out⟩
              · have d0' : (a.1 == b.1) = true := by simp [d0]
                have d1' : (a.2.1 == b.2.1) = true := by simp [d1]
                have d2' : (a.2.2.toList == b.2.2.toList) = false := by simp [d2]
                have HN2 := Hid.mk (SAME.out (by rintro rfl; exact d2 rfl))
                go_wp2
                go_quiet (fail)
                go_wp2
                go_roundg (qb.length - (t + 1))
                case measure => omega
                case rel => exact ⟨t + 1, n1, us2, by omega, by go_num, Nat.le_refl _, own_drew HO.out _, by rw [HN2.out]; exact held_drew HI.out.1 _, below_drewN HI.out.2.1 _, by rw [HN2.out]; exact HI.out.2.2⟩
            · have d0' : (a.1 == b.1) = true := by simp [d0]
              have d1' : (a.2.1 == b.2.1) = false := by simp [d1]
              have HN2 := Hid.mk (SAME.out (by rintro rfl; exact d1 rfl))
              go_wp2
              go_quiet (fail)
              go_wp2
              go_roundg (qb.length - (t + 1))
              case measure => omega
              case rel => exact ⟨t + 1, n1, us2, by omega, by go_num, Nat.le_refl _, own_drew HO.out _, by rw [HN2.out]; exact held_drew HI.out.1 _, below_drewN HI.out.2.1 _, by rw [HN2.out]; exact HI.out.2.2⟩
          · have d0' : (a.1 == b.1) = false := by simp [d0]
            have HN2 := Hid.mk (SAME.out (by rintro rfl; exact d0 rfl))
            go_wp2
            go_quiet (fail)
            go_wp2
            go_roundg (qb.length - (t + 1))
            case measure => omega
            case rel => exact ⟨t + 1, n1, us2, by omega, by go_num, Nat.le_refl _, own_drew HO.out _, by rw [HN2.out]; exact held_drew HI.out.1 _, below_drewN HI.out.2.1 _, by rw [HN2.out]; exact HI.out.2.2⟩
        · have hte : t = qb.length := by omega
          have htlz : ¬ ((t : Int) < (qb.length : Int)) := by omega
          have HTK := Hid.mk (show J ++ joinR x (qb.take t) p q = joinL (qa.take (k + 1)) qb p q by rw [HST.out, List.take_of_length_le (by omega)])
          go_wp2
          go_roundg (qa.length - (k + 1))
          case measure => omega
          case rel => exact ⟨k + 1, n1, us2, by omega, by go_num, Nat.le_refl _, HO.out, by rw [← HTK.out]; exact HI.out.1, HI.out.2.1, by rw [← HTK.out]; exact HI.out.2.2⟩
    · have hke : k = qa.length := by omega
      have hltz : ¬ ((k : Int) < (qa.length : Int)) := by omega
      have HTK := Hid.mk (show joinL (qa.take k) qb p q = joinL qa qb p q by rw [List.take_of_length_le (by omega)])
      go_wp2
      go_ret
      exact ⟨_, rfl, us, by rw [← HTK.out, ← HH.out.2.2]; exact HO.out, by rw [← HTK.out]; exact HH.out.1, HH.out.2.1⟩
end Go.Proofs.YtjceppinfjbegaaGreatDoor

