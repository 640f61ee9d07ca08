import Derived.Test.YtedflhiflomoeaaGreatDoorFlwIa
set_option linter.unusedSimpArgs false
set_option linter.unusedVariables false
namespace Go.Proofs.YtedflhiflomoeaaGreatDoor
open Go.RowKit

set_option maxRecDepth 100000 in
set_option maxHeartbeats 6400000 in
theorem rbody_c2 (at_ : Nat) (outs : List By) (retry : Int) (vo : Value) (K R : Nat) (ts : List Tk) (w : World) (h : RD w R ts) (hK : Box w K [.int .i64 (at_ : Nat), .int .i64 0, vo, .slice none 0 0, .slice none 0 0, .string ⟨#[]⟩, .string ⟨#[]⟩, .int .i64 0, .int .i64 0, .string ⟨#[]⟩, .string ⟨#[]⟩, .int .i64 0, .int .i64 0, .string ⟨#[]⟩, .int .i64 retry]) (hKR : R < K) (hcd : ∀ c t, codeP ts = .ok (c, t) → c = 2) :
    Calls Tryz.prog 61 #[.pointer (some ⟨R, 0, none⟩), .pointer (some ⟨K, 0, none⟩)] w fun e w' => BodyR (bodyP at_ outs retry ts) vo K e w.heap.size w' R ∧ But2 R K w w' := by
  obtain ⟨i0, hi, hz0, hz1, hz2⟩ := info_parts Tryz.infoStr
  have hR := h.lt
  have hKl := hK.lt
  have H0 := Hid.mk h
  have B0 := Hid.mk (But2.refl R K w)
  have X0 := Hid.mk hK
  have E0 := Hid.mk (bodyP.eq_1 at_ outs retry ts)
  clear h hK
  go_enter Tryz.func61, Tryz.ntmps61
  go_wp2_with (go_at_call 79; fail)
  refine (rcode_any R ts _ H0.out).mono ?_
  rintro e w1 ⟨⟨a1, ts1, v, hp, rfl, hv, hrd⟩ | ⟨er, hp, hthr⟩, hb1⟩
  rotate_left
  · obtain ⟨b', rfl, t0, t1, tB, tl⟩ := hthr
    have HP := Hid.mk (bind_err E0.out hp)
    clear hp
    go_wp2
    exact ⟨rfl, Or.inr ⟨_, HP.out, b', rfl, t0, t1, Nat.le_trans B0.out.size tB, tl⟩, B0.out.then hb1⟩
  unfold encI at hv
  subst hv
  have hcr := hcd _ _ hp
  subst hcr
  have he := bind_ok E0.out hp
  dsimp only at he
  have E1 := Hid.mk he
  clear he hp
  have H2 := Hid.mk hrd
  have B3 := Hid.mk (B0.out.then hb1)
  have X4 := Hid.mk (X0.out.but hb1 (by omega))
  have q5 := X4.out.lt
  have sz6 := hb1.size
  try simp only [World.size_alloc, size_set] at sz6
  clear H0 B0 X0 E0 hrd hb1
  clear hcd
  have cf7 := X4.out.cell 1 rfl
  have cf8 := X4.out.fz 1
  have cl9 := X4.out.lt
  have H10 := Hid.mk (H2.out.set (k := K) (i := 1) (v := .int .i64 2) (by omega))
  have B11 := Hid.mk (B3.out.put (k := K) (i := 1) (by omega) (.int .i64 2))
  have X12 : Hid (Box (w1.setCell ⟨K, 1, none⟩ (.int .i64 2)) K [.int .i64 (at_ : Nat), .int .i64 2, vo, .slice none 0 0, .slice none 0 0, .string ⟨#[]⟩, .string ⟨#[]⟩, .int .i64 0, .int .i64 0, .string ⟨#[]⟩, .string ⟨#[]⟩, .int .i64 0, .int .i64 0, .string ⟨#[]⟩, .int .i64 retry]) := Hid.mk (X4.out.set 1 (.int .i64 2))
  clear H2 B3 X4
  go_wp2_with (go_at_call 56; fail)
  refine (rname_any R ts1 _ H10.out).mono ?_
  rintro e w2 ⟨⟨a2, ts2, v, hp, rfl, hv, hrd⟩ | ⟨er, hp, hthr⟩, hb2⟩
  rotate_left
  · obtain ⟨b', rfl, t0, t1, tB, tl⟩ := hthr
    have HP := Hid.mk (bind_err E1.out hp)
    clear hp
    go_wp2
    exact ⟨rfl, Or.inr ⟨_, HP.out, b', rfl, t0, t1, Nat.le_trans B11.out.size tB, tl⟩, B11.out.then hb2⟩
  unfold encS at hv
  subst hv
  have he := bind_ok E1.out hp
  dsimp only at he
  have E13 := Hid.mk he
  clear he hp
  have H14 := Hid.mk hrd
  have B15 := Hid.mk (B11.out.then hb2)
  have X16 := Hid.mk (X12.out.but hb2 (by omega))
  have q17 := X16.out.lt
  have sz18 := hb2.size
  try simp only [World.size_alloc, size_set] at sz18
  clear H10 B11 X12 E1 hrd hb2
  have cf19 := X16.out.cell 1 rfl
  have cf20 := X16.out.cell 3 rfl
  have cf21 := X16.out.fz 3
  have cl22 := X16.out.lt
  have H23 := Hid.mk (H14.out.set (k := K) (i := 3) (v := .slice (some ⟨w2.heap.size, 0, none⟩) 1 1) (by omega))
  have B24 := Hid.mk (B15.out.put (k := K) (i := 3) (by omega) (.slice (some ⟨w2.heap.size, 0, none⟩) 1 1))
  have X25 : Hid (Box (w2.setCell ⟨K, 3, none⟩ (.slice (some ⟨w2.heap.size, 0, none⟩) 1 1)) K [.int .i64 (at_ : Nat), .int .i64 2, vo, .slice (some ⟨w2.heap.size, 0, none⟩) 1 1, .slice none 0 0, .string ⟨#[]⟩, .string ⟨#[]⟩, .int .i64 0, .int .i64 0, .string ⟨#[]⟩, .string ⟨#[]⟩, .int .i64 0, .int .i64 0, .string ⟨#[]⟩, .int .i64 retry]) := Hid.mk (X16.out.set 3 (.slice (some ⟨w2.heap.size, 0, none⟩) 1 1))
  clear H14 B15 X16
  have H26 := Hid.mk (H23.out.below (below_box _ (.cells #[.string (ba a2)] 9)))
  have B27 := Hid.mk (B24.out.box (.cells #[.string (ba a2)] 9))
  have X28 := Hid.mk (X25.out.below (below_box _ (.cells #[.string (ba a2)] 9)))
  have O29 := Hid.mk (own_new1 (w2.setCell ⟨K, 3, none⟩ (.slice (some ⟨w2.heap.size, 0, none⟩) 1 1)) w.heap.size 9 (strV [a2]) 1 w2.heap.size rfl (B24.out.size) (size_set _ _ _).symm)
  have hsqB27 := B24.out.size
  simp only [size_set] at hsqB27
  clear H23 B24 X25 
  have he := E13.out
  rw [if_neg (by decide), if_pos (by decide)] at he
  have E30 := Hid.mk he
  clear he E13
  go_wp2_with (go_at_call 55; fail)
  refine (must_any [58] R ts2 _ H26.out (by decide)).mono ?_
  rintro e w3 ⟨⟨a3, ts3, v, hp, rfl, hv, hrd⟩ | ⟨er, hp, hthr⟩, hb3⟩
  rotate_left
  · obtain ⟨b', rfl, t0, t1, tB, tl⟩ := hthr
    have HP := Hid.mk (bind_err E30.out hp)
    clear hp
    go_wp2
    exact ⟨rfl, Or.inr ⟨_, HP.out, b', rfl, t0, t1, Nat.le_trans B27.out.size tB, tl⟩, B27.out.then hb3⟩
  subst hv
  have he := bind_ok E30.out hp
  dsimp only at he
  have E31 := Hid.mk he
  clear he hp
  have H32 := Hid.mk hrd
  have B33 := Hid.mk (B27.out.then hb3)
  have X34 := Hid.mk (X28.out.but hb3 (by omega))
  have q35 := X34.out.lt
  have O36 := Hid.mk (own_but O29.out hb3 (by omega))
  have sz37 := hb3.size
  try simp only [World.size_alloc, size_set] at sz37
  clear H26 B27 X28 O29 E30 hrd hb3
  go_wp2_with (go_at_call 56; fail)
  refine (rname_any R ts3 _ H32.out).mono ?_
  rintro e w4 ⟨⟨a4, ts4, v, hp, rfl, hv, hrd⟩ | ⟨er, hp, hthr⟩, hb4⟩
  rotate_left
  · obtain ⟨b', rfl, t0, t1, tB, tl⟩ := hthr
    have HP := Hid.mk (bind_err E31.out hp)
    clear hp
    go_wp2
    exact ⟨rfl, Or.inr ⟨_, HP.out, b', rfl, t0, t1, Nat.le_trans B33.out.size tB, tl⟩, B33.out.then hb4⟩
  unfold encS at hv
  subst hv
  have he := bind_ok E31.out hp
  dsimp only at he
  have E38 := Hid.mk he
  clear he hp
  have H39 := Hid.mk hrd
  have B40 := Hid.mk (B33.out.then hb4)
  have X41 := Hid.mk (X34.out.but hb4 (by omega))
  have q42 := X41.out.lt
  have O43 := Hid.mk (own_but O36.out hb4 (by omega))
  have sz44 := hb4.size
  try simp only [World.size_alloc, size_set] at sz44
  clear H32 B33 X34 O36 E31 hrd hb4
  have cf45 := X41.out.cell 1 rfl
  have cf46 := X41.out.cell 4 rfl
  have cf47 := X41.out.fz 4
  have cl48 := X41.out.lt
  have H49 := Hid.mk (H39.out.set (k := K) (i := 4) (v := .slice (some ⟨w4.heap.size, 0, none⟩) 1 1) (by omega))
  have B50 := Hid.mk (B40.out.put (k := K) (i := 4) (by omega) (.slice (some ⟨w4.heap.size, 0, none⟩) 1 1))
  have X51 : Hid (Box (w4.setCell ⟨K, 4, none⟩ (.slice (some ⟨w4.heap.size, 0, none⟩) 1 1)) K [.int .i64 (at_ : Nat), .int .i64 2, vo, .slice (some ⟨w2.heap.size, 0, none⟩) 1 1, .slice (some ⟨w4.heap.size, 0, none⟩) 1 1, .string ⟨#[]⟩, .string ⟨#[]⟩, .int .i64 0, .int .i64 0, .string ⟨#[]⟩, .string ⟨#[]⟩, .int .i64 0, .int .i64 0, .string ⟨#[]⟩, .int .i64 retry]) := Hid.mk (X41.out.set 4 (.slice (some ⟨w4.heap.size, 0, none⟩) 1 1))
  have O52 := Hid.mk (ownsRow_setCell_below O43.out (a := ⟨K, 4, none⟩) (by show K < _; omega) (.slice (some ⟨w4.heap.size, 0, none⟩) 1 1))
  clear H39 B40 X41 O43
  have H53 := Hid.mk (H49.out.below (below_box _ (.cells #[.string (ba a4)] 9)))
  have B54 := Hid.mk (B50.out.box (.cells #[.string (ba a4)] 9))
  have X55 := Hid.mk (X51.out.below (below_box _ (.cells #[.string (ba a4)] 9)))
  have O56 := Hid.mk (own_new1 (w4.setCell ⟨K, 4, none⟩ (.slice (some ⟨w4.heap.size, 0, none⟩) 1 1)) w.heap.size 9 (strV [a4]) 1 w4.heap.size rfl (B50.out.size) (size_set _ _ _).symm)
  have O57 := Hid.mk (O52.out.alloc (.cells #[.string (ba a4)] 9))
  have hsqB54 := B50.out.size
  simp only [size_set] at hsqB54
  clear H49 B50 X51 O52
  go_wp2_with (go_at_call 55; fail)
  refine (must_any [61] R ts4 _ H53.out (by decide)).mono ?_
  rintro e w5 ⟨⟨a5, ts5, v, hp, rfl, hv, hrd⟩ | ⟨er, hp, hthr⟩, hb5⟩
  rotate_left
  · obtain ⟨b', rfl, t0, t1, tB, tl⟩ := hthr
    have HP := Hid.mk (bind_err E38.out hp)
    clear hp
    go_wp2
    exact ⟨rfl, Or.inr ⟨_, HP.out, b', rfl, t0, t1, Nat.le_trans B54.out.size tB, tl⟩, B54.out.then hb5⟩
  subst hv
  have he := bind_ok E38.out hp
  dsimp only at he
  have E58 := Hid.mk he
  clear he hp
  have H59 := Hid.mk hrd
  have B60 := Hid.mk (B54.out.then hb5)
  have X61 := Hid.mk (X55.out.but hb5 (by omega))
  have q62 := X61.out.lt
  have O63 := Hid.mk (own_but O57.out hb5 (by omega))
  have O64 := Hid.mk (own_but O56.out hb5 (by omega))
  have sz65 := hb5.size
  try simp only [World.size_alloc, size_set] at sz65
  clear H53 B54 X55 O57 O56 E38 hrd hb5
  go_wp2_with (go_at_call 81; fail)
  refine (rarg_any R ts5 _ H59.out).mono ?_
  rintro e w6 ⟨⟨a6, ts6, v, hp, rfl, hv, hrd⟩ | ⟨er, hp, hthr⟩, hb6⟩
  rotate_left
  · obtain ⟨b', rfl, t0, t1, tB, tl⟩ := hthr
    have HP := Hid.mk (bind_err E58.out hp)
    clear hp
    go_wp2
    exact ⟨rfl, Or.inr ⟨_, HP.out, b', rfl, t0, t1, Nat.le_trans B60.out.size tB, tl⟩, B60.out.then hb6⟩
  unfold encA at hv
  subst hv
  have he := bind_ok E58.out hp
  dsimp only at he
  have E66 := Hid.mk he
  clear he hp
  have H67 := Hid.mk hrd
  have B68 := Hid.mk (B60.out.then hb6)
  have X69 := Hid.mk (X61.out.but hb6 (by omega))
  have q70 := X69.out.lt
  have O71 := Hid.mk (own_but O63.out hb6 (by omega))
  have O72 := Hid.mk (own_but O64.out hb6 (by omega))
  have sz73 := hb6.size
  try simp only [World.size_alloc, size_set] at sz73
  clear H59 B60 X61 O63 O64 E58 hrd hb6
  have cf74 := X69.out.cell 6 rfl
  have cf75 := X69.out.fz 6
  have cf76 := X69.out.cell 7 rfl
  have cf77 := X69.out.fz 7
  have cf78 := X69.out.cell 8 rfl
  have cf79 := X69.out.fz 8
  have cf80 := X69.out.cell 9 rfl
  have cf81 := X69.out.fz 9
  have cl82 := X69.out.lt
  have H83 := Hid.mk (H67.out.set (k := K) (i := 6) (v := .string (ba a6.1)) (by omega))
  have B84 := Hid.mk (B68.out.put (k := K) (i := 6) (by omega) (.string (ba a6.1)))
  have X85 : Hid (Box (w6.setCell ⟨K, 6, none⟩ (.string (ba a6.1))) K [.int .i64 (at_ : Nat), .int .i64 2, vo, .slice (some ⟨w2.heap.size, 0, none⟩) 1 1, .slice (some ⟨w4.heap.size, 0, none⟩) 1 1, .string ⟨#[]⟩, .string (ba a6.1), .int .i64 0, .int .i64 0, .string ⟨#[]⟩, .string ⟨#[]⟩, .int .i64 0, .int .i64 0, .string ⟨#[]⟩, .int .i64 retry]) := Hid.mk (X69.out.set 6 (.string (ba a6.1)))
  have O86 := Hid.mk (ownsRow_setCell_below O71.out (a := ⟨K, 6, none⟩) (by show K < _; omega) (.string (ba a6.1)))
  have O87 := Hid.mk (ownsRow_setCell_below O72.out (a := ⟨K, 6, none⟩) (by show K < _; omega) (.string (ba a6.1)))
  clear H67 B68 X69 O71 O72
  have H88 := Hid.mk (H83.out.set (k := K) (i := 7) (v := .int .i64 a6.2.1) (by omega))
  have B89 := Hid.mk (B84.out.put (k := K) (i := 7) (by omega) (.int .i64 a6.2.1))
  have X90 : Hid (Box ((w6.setCell ⟨K, 6, none⟩ (.string (ba a6.1))).setCell ⟨K, 7, none⟩ (.int .i64 a6.2.1)) K [.int .i64 (at_ : Nat), .int .i64 2, vo, .slice (some ⟨w2.heap.size, 0, none⟩) 1 1, .slice (some ⟨w4.heap.size, 0, none⟩) 1 1, .string ⟨#[]⟩, .string (ba a6.1), .int .i64 a6.2.1, .int .i64 0, .string ⟨#[]⟩, .string ⟨#[]⟩, .int .i64 0, .int .i64 0, .string ⟨#[]⟩, .int .i64 retry]) := Hid.mk (X85.out.set 7 (.int .i64 a6.2.1))
  have O91 := Hid.mk (ownsRow_setCell_below O86.out (a := ⟨K, 7, none⟩) (by show K < _; omega) (.int .i64 a6.2.1))
  have O92 := Hid.mk (ownsRow_setCell_below O87.out (a := ⟨K, 7, none⟩) (by show K < _; omega) (.int .i64 a6.2.1))
  clear H83 B84 X85 O86 O87
  have H93 := Hid.mk (H88.out.set (k := K) (i := 8) (v := .int .i64 a6.2.2.1) (by omega))
  have B94 := Hid.mk (B89.out.put (k := K) (i := 8) (by omega) (.int .i64 a6.2.2.1))
  have X95 : Hid (Box (((w6.setCell ⟨K, 6, none⟩ (.string (ba a6.1))).setCell ⟨K, 7, none⟩ (.int .i64 a6.2.1)).setCell ⟨K, 8, none⟩ (.int .i64 a6.2.2.1)) K [.int .i64 (at_ : Nat), .int .i64 2, vo, .slice (some ⟨w2.heap.size, 0, none⟩) 1 1, .slice (some ⟨w4.heap.size, 0, none⟩) 1 1, .string ⟨#[]⟩, .string (ba a6.1), .int .i64 a6.2.1, .int .i64 a6.2.2.1, .string ⟨#[]⟩, .string ⟨#[]⟩, .int .i64 0, .int .i64 0, .string ⟨#[]⟩, .int .i64 retry]) := Hid.mk (X90.out.set 8 (.int .i64 a6.2.2.1))
  have O96 := Hid.mk (ownsRow_setCell_below O91.out (a := ⟨K, 8, none⟩) (by show K < _; omega) (.int .i64 a6.2.2.1))
  have O97 := Hid.mk (ownsRow_setCell_below O92.out (a := ⟨K, 8, none⟩) (by show K < _; omega) (.int .i64 a6.2.2.1))
  clear H88 B89 X90 O91 O92
  have H98 := Hid.mk (H93.out.set (k := K) (i := 9) (v := .string (ba a6.2.2.2)) (by omega))
  have B99 := Hid.mk (B94.out.put (k := K) (i := 9) (by omega) (.string (ba a6.2.2.2)))
  have X100 : Hid (Box ((((w6.setCell ⟨K, 6, none⟩ (.string (ba a6.1))).setCell ⟨K, 7, none⟩ (.int .i64 a6.2.1)).setCell ⟨K, 8, none⟩ (.int .i64 a6.2.2.1)).setCell ⟨K, 9, none⟩ (.string (ba a6.2.2.2))) K [.int .i64 (at_ : Nat), .int .i64 2, vo, .slice (some ⟨w2.heap.size, 0, none⟩) 1 1, .slice (some ⟨w4.heap.size, 0, none⟩) 1 1, .string ⟨#[]⟩, .string (ba a6.1), .int .i64 a6.2.1, .int .i64 a6.2.2.1, .string (ba a6.2.2.2), .string ⟨#[]⟩, .int .i64 0, .int .i64 0, .string ⟨#[]⟩, .int .i64 retry]) := Hid.mk (X95.out.set 9 (.string (ba a6.2.2.2)))
  have O101 := Hid.mk (ownsRow_setCell_below O96.out (a := ⟨K, 9, none⟩) (by show K < _; omega) (.string (ba a6.2.2.2)))
  have O102 := Hid.mk (ownsRow_setCell_below O97.out (a := ⟨K, 9, none⟩) (by show K < _; omega) (.string (ba a6.2.2.2)))
  clear H93 B94 X95 O96 O97
  have H103 := Hid.mk (H98.out.below (below_box _ (.cells #[.string ⟨#[43]⟩, .string ⟨#[45]⟩, .string ⟨#[42]⟩] 9)))
  have B104 := Hid.mk (B99.out.box (.cells #[.string ⟨#[43]⟩, .string ⟨#[45]⟩, .string ⟨#[42]⟩] 9))
  have X105 := Hid.mk (X100.out.below (below_box _ (.cells #[.string ⟨#[43]⟩, .string ⟨#[45]⟩, .string ⟨#[42]⟩] 9)))
  have O106 := Hid.mk (O101.out.alloc (.cells #[.string ⟨#[43]⟩, .string ⟨#[45]⟩, .string ⟨#[42]⟩] 9))
  have O107 := Hid.mk (O102.out.alloc (.cells #[.string ⟨#[43]⟩, .string ⟨#[45]⟩, .string ⟨#[42]⟩] 9))
  clear H98 B99 X100 O101 O102
  have TX108 : Hid (TextsAt (((((w6.setCell ⟨K, 6, none⟩ (.string (ba a6.1))).setCell ⟨K, 7, none⟩ (.int .i64 a6.2.1)).setCell ⟨K, 8, none⟩ (.int .i64 a6.2.2.1)).setCell ⟨K, 9, none⟩ (.string (ba a6.2.2.2))).alloc (.cells #[.string ⟨#[43]⟩, .string ⟨#[45]⟩, .string ⟨#[42]⟩] 9)) (.slice (some ⟨w6.heap.size, 0, none⟩) 3 3) ariL) := Hid.mk (texts_new ((((w6.setCell ⟨K, 6, none⟩ (.string (ba a6.1))).setCell ⟨K, 7, none⟩ (.int .i64 a6.2.1)).setCell ⟨K, 8, none⟩ (.int .i64 a6.2.2.1)).setCell ⟨K, 9, none⟩ (.string (ba a6.2.2.2))) ariL (by decide) (w6.heap.size) (by simp only [World.size_alloc, size_set]))
  go_wp2_with (go_at_call 80; fail)
  refine (roneOf_any (.slice (some ⟨w6.heap.size, 0, none⟩) 3 3) ariL R ts6 (((((w6.setCell ⟨K, 6, none⟩ (.string (ba a6.1))).setCell ⟨K, 7, none⟩ (.int .i64 a6.2.1)).setCell ⟨K, 8, none⟩ (.int .i64 a6.2.2.1)).setCell ⟨K, 9, none⟩ (.string (ba a6.2.2.2))).alloc (.cells #[.string ⟨#[43]⟩, .string ⟨#[45]⟩, .string ⟨#[42]⟩] 9)) H103.out TX108.out (by decide)).mono ?_
  rintro e w7 ⟨⟨a7, ts7, v, hp, rfl, hv, hrd⟩ | ⟨er, hp, hthr⟩, hb7⟩
  rotate_left
  · obtain ⟨b', rfl, t0, t1, tB, tl⟩ := hthr
    have HP := Hid.mk (bind_err E66.out hp)
    clear hp
    go_wp2
    exact ⟨rfl, Or.inr ⟨_, HP.out, b', rfl, t0, t1, Nat.le_trans B104.out.size tB, tl⟩, B104.out.then hb7⟩
  unfold encS at hv
  subst hv
  have he := bind_ok E66.out hp
  dsimp only at he
  have E109 := Hid.mk he
  clear he hp
  have H110 := Hid.mk hrd
  have B111 := Hid.mk (B104.out.then hb7)
  have X112 := Hid.mk (X105.out.but hb7 (by omega))
  have q113 := X112.out.lt
  have O114 := Hid.mk (own_but O106.out hb7 (by omega))
  have O115 := Hid.mk (own_but O107.out hb7 (by omega))
  have sz116 := hb7.size
  try simp only [World.size_alloc, size_set] at sz116
  clear H103 B104 X105 O106 O107 E66 hrd hb7
  have cf117 := X112.out.cell 5 rfl
  have cf118 := X112.out.fz 5
  have cl119 := X112.out.lt
  have H120 := Hid.mk (H110.out.set (k := K) (i := 5) (v := .string (ba a7)) (by omega))
  have B121 := Hid.mk (B111.out.put (k := K) (i := 5) (by omega) (.string (ba a7)))
  have X122 : Hid (Box (w7.setCell ⟨K, 5, none⟩ (.string (ba a7))) K [.int .i64 (at_ : Nat), .int .i64 2, vo, .slice (some ⟨w2.heap.size, 0, none⟩) 1 1, .slice (some ⟨w4.heap.size, 0, none⟩) 1 1, .string (ba a7), .string (ba a6.1), .int .i64 a6.2.1, .int .i64 a6.2.2.1, .string (ba a6.2.2.2), .string ⟨#[]⟩, .int .i64 0, .int .i64 0, .string ⟨#[]⟩, .int .i64 retry]) := Hid.mk (X112.out.set 5 (.string (ba a7)))
  have O123 := Hid.mk (ownsRow_setCell_below O114.out (a := ⟨K, 5, none⟩) (by show K < _; omega) (.string (ba a7)))
  have O124 := Hid.mk (ownsRow_setCell_below O115.out (a := ⟨K, 5, none⟩) (by show K < _; omega) (.string (ba a7)))
  clear H110 B111 X112 O114 O115
  go_wp2_with (go_at_call 81; fail)
  refine (rarg_any R ts7 _ H120.out).mono ?_
  rintro e w8 ⟨⟨a8, ts8, v, hp, rfl, hv, hrd⟩ | ⟨er, hp, hthr⟩, hb8⟩
  rotate_left
  · obtain ⟨b', rfl, t0, t1, tB, tl⟩ := hthr
    have HP := Hid.mk (bind_err E109.out hp)
    clear hp
    go_wp2
    exact ⟨rfl, Or.inr ⟨_, HP.out, b', rfl, t0, t1, Nat.le_trans B121.out.size tB, tl⟩, B121.out.then hb8⟩
  unfold encA at hv
  subst hv
  have he := bind_ok E109.out hp
  dsimp only at he
  have E125 := Hid.mk he
  clear he hp
  have H126 := Hid.mk hrd
  have B127 := Hid.mk (B121.out.then hb8)
  have X128 := Hid.mk (X122.out.but hb8 (by omega))
  have q129 := X128.out.lt
  have O130 := Hid.mk (own_but O123.out hb8 (by omega))
  have O131 := Hid.mk (own_but O124.out hb8 (by omega))
  have sz132 := hb8.size
  try simp only [World.size_alloc, size_set] at sz132
  clear H120 B121 X122 O123 O124 E109 hrd hb8
  have cf133 := X128.out.cell 10 rfl
  have cf134 := X128.out.fz 10
  have cf135 := X128.out.cell 11 rfl
  have cf136 := X128.out.fz 11
  have cf137 := X128.out.cell 12 rfl
  have cf138 := X128.out.fz 12
  have cf139 := X128.out.cell 13 rfl
  have cf140 := X128.out.fz 13
  have cl141 := X128.out.lt
  have H142 := Hid.mk (H126.out.set (k := K) (i := 10) (v := .string (ba a8.1)) (by omega))
  have B143 := Hid.mk (B127.out.put (k := K) (i := 10) (by omega) (.string (ba a8.1)))
  have X144 : Hid (Box (w8.setCell ⟨K, 10, none⟩ (.string (ba a8.1))) K [.int .i64 (at_ : Nat), .int .i64 2, vo, .slice (some ⟨w2.heap.size, 0, none⟩) 1 1, .slice (some ⟨w4.heap.size, 0, none⟩) 1 1, .string (ba a7), .string (ba a6.1), .int .i64 a6.2.1, .int .i64 a6.2.2.1, .string (ba a6.2.2.2), .string (ba a8.1), .int .i64 0, .int .i64 0, .string ⟨#[]⟩, .int .i64 retry]) := Hid.mk (X128.out.set 10 (.string (ba a8.1)))
  have O145 := Hid.mk (ownsRow_setCell_below O130.out (a := ⟨K, 10, none⟩) (by show K < _; omega) (.string (ba a8.1)))
  have O146 := Hid.mk (ownsRow_setCell_below O131.out (a := ⟨K, 10, none⟩) (by show K < _; omega) (.string (ba a8.1)))
  clear H126 B127 X128 O130 O131
  have H147 := Hid.mk (H142.out.set (k := K) (i := 11) (v := .int .i64 a8.2.1) (by omega))
  have B148 := Hid.mk (B143.out.put (k := K) (i := 11) (by omega) (.int .i64 a8.2.1))
  have X149 : Hid (Box ((w8.setCell ⟨K, 10, none⟩ (.string (ba a8.1))).setCell ⟨K, 11, none⟩ (.int .i64 a8.2.1)) K [.int .i64 (at_ : Nat), .int .i64 2, vo, .slice (some ⟨w2.heap.size, 0, none⟩) 1 1, .slice (some ⟨w4.heap.size, 0, none⟩) 1 1, .string (ba a7), .string (ba a6.1), .int .i64 a6.2.1, .int .i64 a6.2.2.1, .string (ba a6.2.2.2), .string (ba a8.1), .int .i64 a8.2.1, .int .i64 0, .string ⟨#[]⟩, .int .i64 retry]) := Hid.mk (X144.out.set 11 (.int .i64 a8.2.1))
  have O150 := Hid.mk (ownsRow_setCell_below O145.out (a := ⟨K, 11, none⟩) (by show K < _; omega) (.int .i64 a8.2.1))
  have O151 := Hid.mk (ownsRow_setCell_below O146.out (a := ⟨K, 11, none⟩) (by show K < _; omega) (.int .i64 a8.2.1))
  clear H142 B143 X144 O145 O146
  have H152 := Hid.mk (H147.out.set (k := K) (i := 12) (v := .int .i64 a8.2.2.1) (by omega))
  have B153 := Hid.mk (B148.out.put (k := K) (i := 12) (by omega) (.int .i64 a8.2.2.1))
  have X154 : Hid (Box (((w8.setCell ⟨K, 10, none⟩ (.string (ba a8.1))).setCell ⟨K, 11, none⟩ (.int .i64 a8.2.1)).setCell ⟨K, 12, none⟩ (.int .i64 a8.2.2.1)) K [.int .i64 (at_ : Nat), .int .i64 2, vo, .slice (some ⟨w2.heap.size, 0, none⟩) 1 1, .slice (some ⟨w4.heap.size, 0, none⟩) 1 1, .string (ba a7), .string (ba a6.1), .int .i64 a6.2.1, .int .i64 a6.2.2.1, .string (ba a6.2.2.2), .string (ba a8.1), .int .i64 a8.2.1, .int .i64 a8.2.2.1, .string ⟨#[]⟩, .int .i64 retry]) := Hid.mk (X149.out.set 12 (.int .i64 a8.2.2.1))
  have O155 := Hid.mk (ownsRow_setCell_below O150.out (a := ⟨K, 12, none⟩) (by show K < _; omega) (.int .i64 a8.2.2.1))
  have O156 := Hid.mk (ownsRow_setCell_below O151.out (a := ⟨K, 12, none⟩) (by show K < _; omega) (.int .i64 a8.2.2.1))
  clear H147 B148 X149 O150 O151
  have H157 := Hid.mk (H152.out.set (k := K) (i := 13) (v := .string (ba a8.2.2.2)) (by omega))
  have B158 := Hid.mk (B153.out.put (k := K) (i := 13) (by omega) (.string (ba a8.2.2.2)))
  have X159 : Hid (Box ((((w8.setCell ⟨K, 10, none⟩ (.string (ba a8.1))).setCell ⟨K, 11, none⟩ (.int .i64 a8.2.1)).setCell ⟨K, 12, none⟩ (.int .i64 a8.2.2.1)).setCell ⟨K, 13, none⟩ (.string (ba a8.2.2.2))) K [.int .i64 (at_ : Nat), .int .i64 2, vo, .slice (some ⟨w2.heap.size, 0, none⟩) 1 1, .slice (some ⟨w4.heap.size, 0, none⟩) 1 1, .string (ba a7), .string (ba a6.1), .int .i64 a6.2.1, .int .i64 a6.2.2.1, .string (ba a6.2.2.2), .string (ba a8.1), .int .i64 a8.2.1, .int .i64 a8.2.2.1, .string (ba a8.2.2.2), .int .i64 retry]) := Hid.mk (X154.out.set 13 (.string (ba a8.2.2.2)))
  have O160 := Hid.mk (ownsRow_setCell_below O155.out (a := ⟨K, 13, none⟩) (by show K < _; omega) (.string (ba a8.2.2.2)))
  have O161 := Hid.mk (ownsRow_setCell_below O156.out (a := ⟨K, 13, none⟩) (by show K < _; omega) (.string (ba a8.2.2.2)))
  clear H152 B153 X154 O155 O156
  go_wp2
  go_end0
  exact ⟨Or.inl ⟨_, _, .slice (some ⟨w2.heap.size, 0, none⟩) 1 1, .slice (some ⟨w4.heap.size, 0, none⟩) 1 1, E125.out, rfl, H157.out, X159.out, O160.out, O161.out⟩, B158.out⟩
set_option maxRecDepth 100000 in
set_option maxHeartbeats 6400000 in
theorem rbody_c3 (at_ : Nat) (outs : List By) (retry : Int) (vo : Value) (K R : Nat) (ts : List Tk) (w : World) (h : RD w R ts) (hK : Box w K [.int .i64 (at_ : Nat), .int .i64 0, vo, .slice none 0 0, .slice none 0 0, .string ⟨#[]⟩, .string ⟨#[]⟩, .int .i64 0, .int .i64 0, .string ⟨#[]⟩, .string ⟨#[]⟩, .int .i64 0, .int .i64 0, .string ⟨#[]⟩, .int .i64 retry]) (hKR : R < K) (hcd : ∀ c t, codeP ts = .ok (c, t) → c = 3) :
    Calls Tryz.prog 61 #[.pointer (some ⟨R, 0, none⟩), .pointer (some ⟨K, 0, none⟩)] w fun e w' => BodyR (bodyP at_ outs retry ts) vo K e w.heap.size w' R ∧ But2 R K w w' := by
  obtain ⟨i0, hi, hz0, hz1, hz2⟩ := info_parts Tryz.infoStr
  have hR := h.lt
  have hKl := hK.lt
  have H0 := Hid.mk h
  have B0 := Hid.mk (But2.refl R K w)
  have X0 := Hid.mk hK
  have E0 := Hid.mk (bodyP.eq_1 at_ outs retry ts)
  clear h hK
  go_enter Tryz.func61, Tryz.ntmps61
  go_wp2_with (go_at_call 79; fail)
  refine (rcode_any R ts _ H0.out).mono ?_
  rintro e w1 ⟨⟨a1, ts1, v, hp, rfl, hv, hrd⟩ | ⟨er, hp, hthr⟩, hb1⟩
  rotate_left
  · obtain ⟨b', rfl, t0, t1, tB, tl⟩ := hthr
    have HP := Hid.mk (bind_err E0.out hp)
    clear hp
    go_wp2
    exact ⟨rfl, Or.inr ⟨_, HP.out, b', rfl, t0, t1, Nat.le_trans B0.out.size tB, tl⟩, B0.out.then hb1⟩
  unfold encI at hv
  subst hv
  have hcr := hcd _ _ hp
  subst hcr
  have he := bind_ok E0.out hp
  dsimp only at he
  have E1 := Hid.mk he
  clear he hp
  have H2 := Hid.mk hrd
  have B3 := Hid.mk (B0.out.then hb1)
  have X4 := Hid.mk (X0.out.but hb1 (by omega))
  have q5 := X4.out.lt
  have sz6 := hb1.size
  try simp only [World.size_alloc, size_set] at sz6
  clear H0 B0 X0 E0 hrd hb1
  clear hcd
  have cf7 := X4.out.cell 1 rfl
  have cf8 := X4.out.fz 1
  have cl9 := X4.out.lt
  have H10 := Hid.mk (H2.out.set (k := K) (i := 1) (v := .int .i64 3) (by omega))
  have B11 := Hid.mk (B3.out.put (k := K) (i := 1) (by omega) (.int .i64 3))
  have X12 : Hid (Box (w1.setCell ⟨K, 1, none⟩ (.int .i64 3)) K [.int .i64 (at_ : Nat), .int .i64 3, vo, .slice none 0 0, .slice none 0 0, .string ⟨#[]⟩, .string ⟨#[]⟩, .int .i64 0, .int .i64 0, .string ⟨#[]⟩, .string ⟨#[]⟩, .int .i64 0, .int .i64 0, .string ⟨#[]⟩, .int .i64 retry]) := Hid.mk (X4.out.set 1 (.int .i64 3))
  clear H2 B3 X4
  go_wp2_with (go_at_call 56; fail)
  refine (rname_any R ts1 _ H10.out).mono ?_
  rintro e w2 ⟨⟨a2, ts2, v, hp, rfl, hv, hrd⟩ | ⟨er, hp, hthr⟩, hb2⟩
  rotate_left
  · obtain ⟨b', rfl, t0, t1, tB, tl⟩ := hthr
    have HP := Hid.mk (bind_err E1.out hp)
    clear hp
    go_wp2
    exact ⟨rfl, Or.inr ⟨_, HP.out, b', rfl, t0, t1, Nat.le_trans B11.out.size tB, tl⟩, B11.out.then hb2⟩
  unfold encS at hv
  subst hv
  have he := bind_ok E1.out hp
  dsimp only at he
  have E13 := Hid.mk he
  clear he hp
  have H14 := Hid.mk hrd
  have B15 := Hid.mk (B11.out.then hb2)
  have X16 := Hid.mk (X12.out.but hb2 (by omega))
  have q17 := X16.out.lt
  have sz18 := hb2.size
  try simp only [World.size_alloc, size_set] at sz18
  clear H10 B11 X12 E1 hrd hb2
  have cf19 := X16.out.cell 1 rfl
  have cf20 := X16.out.cell 3 rfl
  have cf21 := X16.out.fz 3
  have cl22 := X16.out.lt
  have H23 := Hid.mk (H14.out.set (k := K) (i := 3) (v := .slice (some ⟨w2.heap.size, 0, none⟩) 1 1) (by omega))
  have B24 := Hid.mk (B15.out.put (k := K) (i := 3) (by omega) (.slice (some ⟨w2.heap.size, 0, none⟩) 1 1))
  have X25 : Hid (Box (w2.setCell ⟨K, 3, none⟩ (.slice (some ⟨w2.heap.size, 0, none⟩) 1 1)) K [.int .i64 (at_ : Nat), .int .i64 3, vo, .slice (some ⟨w2.heap.size, 0, none⟩) 1 1, .slice none 0 0, .string ⟨#[]⟩, .string ⟨#[]⟩, .int .i64 0, .int .i64 0, .string ⟨#[]⟩, .string ⟨#[]⟩, .int .i64 0, .int .i64 0, .string ⟨#[]⟩, .int .i64 retry]) := Hid.mk (X16.out.set 3 (.slice (some ⟨w2.heap.size, 0, none⟩) 1 1))
  clear H14 B15 X16
  have H26 := Hid.mk (H23.out.below (below_box _ (.cells #[.string (ba a2)] 9)))
  have B27 := Hid.mk (B24.out.box (.cells #[.string (ba a2)] 9))
  have X28 := Hid.mk (X25.out.below (below_box _ (.cells #[.string (ba a2)] 9)))
  have O29 := Hid.mk (own_new1 (w2.setCell ⟨K, 3, none⟩ (.slice (some ⟨w2.heap.size, 0, none⟩) 1 1)) w.heap.size 9 (strV [a2]) 1 w2.heap.size rfl (B24.out.size) (size_set _ _ _).symm)
  have hsqB27 := B24.out.size
  simp only [size_set] at hsqB27
  clear H23 B24 X25 
  have he := E13.out
  rw [if_neg (by decide), if_neg (by decide), if_pos (by decide)] at he
  have E30 := Hid.mk he
  clear he E13
  go_wp2_with (go_at_call 55; fail)
  refine (must_any wBy R ts2 _ H26.out (by decide)).mono ?_
  rintro e w3 ⟨⟨a3, ts3, v, hp, rfl, hv, hrd⟩ | ⟨er, hp, hthr⟩, hb3⟩
  rotate_left
  · obtain ⟨b', rfl, t0, t1, tB, tl⟩ := hthr
    have HP := Hid.mk (bind_err E30.out hp)
    clear hp
    go_wp2
    exact ⟨rfl, Or.inr ⟨_, HP.out, b', rfl, t0, t1, Nat.le_trans B27.out.size tB, tl⟩, B27.out.then hb3⟩
  subst hv
  have he := bind_ok E30.out hp
  dsimp only at he
  have E31 := Hid.mk he
  clear he hp
  have H32 := Hid.mk hrd
  have B33 := Hid.mk (B27.out.then hb3)
  have X34 := Hid.mk (X28.out.but hb3 (by omega))
  have q35 := X34.out.lt
  have O36 := Hid.mk (own_but O29.out hb3 (by omega))
  have sz37 := hb3.size
  try simp only [World.size_alloc, size_set] at sz37
  clear H26 B27 X28 O29 E30 hrd hb3
  go_wp2_with (go_at_call 59; fail)
  refine (rnames_any R ts3 _ H32.out).mono ?_
  rintro e w4 ⟨⟨a4, ts4, v, hp, rfl, hv, hrd⟩ | ⟨er, hp, hthr⟩, hb4⟩
  rotate_left
  · obtain ⟨b', rfl, t0, t1, tB, tl⟩ := hthr
    have HP := Hid.mk (bind_err E31.out hp)
    clear hp
    go_wp2
    exact ⟨rfl, Or.inr ⟨_, HP.out, b', rfl, t0, t1, Nat.le_trans B33.out.size tB, tl⟩, B33.out.then hb4⟩
  unfold encL at hv
  obtain ⟨na, nc, hve⟩ := own_slice hv
  subst hve
  have OC := Hid.mk (own_mono (B := w.heap.size) (B33.out.size) hv)
  clear hv
  have he := bind_ok E31.out hp
  dsimp only at he
  have E38 := Hid.mk he
  clear he hp
  have H39 := Hid.mk hrd
  have B40 := Hid.mk (B33.out.then hb4)
  have X41 := Hid.mk (X34.out.but hb4 (by omega))
  have q42 := X41.out.lt
  have O43 := Hid.mk (own_but O36.out hb4 (by omega))
  have sz44 := hb4.size
  try simp only [World.size_alloc, size_set] at sz44
  clear H32 B33 X34 O36 E31 hrd hb4
  have cf45 := X41.out.cell 4 rfl
  have cf46 := X41.out.fz 4
  have cl47 := X41.out.lt
  have H48 := Hid.mk (H39.out.set (k := K) (i := 4) (v := .slice na a4.length nc) (by omega))
  have B49 := Hid.mk (B40.out.put (k := K) (i := 4) (by omega) (.slice na a4.length nc))
  have X50 : Hid (Box (w4.setCell ⟨K, 4, none⟩ (.slice na a4.length nc)) K [.int .i64 (at_ : Nat), .int .i64 3, vo, .slice (some ⟨w2.heap.size, 0, none⟩) 1 1, .slice na a4.length nc, .string ⟨#[]⟩, .string ⟨#[]⟩, .int .i64 0, .int .i64 0, .string ⟨#[]⟩, .string ⟨#[]⟩, .int .i64 0, .int .i64 0, .string ⟨#[]⟩, .int .i64 retry]) := Hid.mk (X41.out.set 4 (.slice na a4.length nc))
  have O51 := Hid.mk (ownsRow_setCell_below O43.out (a := ⟨K, 4, none⟩) (by show K < _; omega) (.slice na a4.length nc))
  have O52 := Hid.mk (ownsRow_setCell_below OC.out (a := ⟨K, 4, none⟩) (by show K < _; omega) (.slice na a4.length nc))
  clear H39 B40 X41 O43 OC
  go_wp2
  go_end0
  exact ⟨Or.inl ⟨_, _, .slice (some ⟨w2.heap.size, 0, none⟩) 1 1, .slice na a4.length nc, E38.out, rfl, H48.out, X50.out, O51.out, O52.out⟩, B49.out⟩
set_option maxRecDepth 100000 in
set_option maxHeartbeats 6400000 in
theorem rbody_c4 (at_ : Nat) (outs : List By) (retry : Int) (vo : Value) (K R : Nat) (ts : List Tk) (w : World) (h : RD w R ts) (hK : Box w K [.int .i64 (at_ : Nat), .int .i64 0, vo, .slice none 0 0, .slice none 0 0, .string ⟨#[]⟩, .string ⟨#[]⟩, .int .i64 0, .int .i64 0, .string ⟨#[]⟩, .string ⟨#[]⟩, .int .i64 0, .int .i64 0, .string ⟨#[]⟩, .int .i64 retry]) (hKR : R < K) (hcd : ∀ c t, codeP ts = .ok (c, t) → c = 4) :
    Calls Tryz.prog 61 #[.pointer (some ⟨R, 0, none⟩), .pointer (some ⟨K, 0, none⟩)] w fun e w' => BodyR (bodyP at_ outs retry ts) vo K e w.heap.size w' R ∧ But2 R K w w' := by
  obtain ⟨i0, hi, hz0, hz1, hz2⟩ := info_parts Tryz.infoStr
  have hR := h.lt
  have hKl := hK.lt
  have H0 := Hid.mk h
  have B0 := Hid.mk (But2.refl R K w)
  have X0 := Hid.mk hK
  have E0 := Hid.mk (bodyP.eq_1 at_ outs retry ts)
  clear h hK
  go_enter Tryz.func61, Tryz.ntmps61
  go_wp2_with (go_at_call 79; fail)
  refine (rcode_any R ts _ H0.out).mono ?_
  rintro e w1 ⟨⟨a1, ts1, v, hp, rfl, hv, hrd⟩ | ⟨er, hp, hthr⟩, hb1⟩
  rotate_left
  · obtain ⟨b', rfl, t0, t1, tB, tl⟩ := hthr
    have HP := Hid.mk (bind_err E0.out hp)
    clear hp
    go_wp2
    exact ⟨rfl, Or.inr ⟨_, HP.out, b', rfl, t0, t1, Nat.le_trans B0.out.size tB, tl⟩, B0.out.then hb1⟩
  unfold encI at hv
  subst hv
  have hcr := hcd _ _ hp
  subst hcr
  have he := bind_ok E0.out hp
  dsimp only at he
  have E1 := Hid.mk he
  clear he hp
  have H2 := Hid.mk hrd
  have B3 := Hid.mk (B0.out.then hb1)
  have X4 := Hid.mk (X0.out.but hb1 (by omega))
  have q5 := X4.out.lt
  have sz6 := hb1.size
  try simp only [World.size_alloc, size_set] at sz6
  clear H0 B0 X0 E0 hrd hb1
  clear hcd
  have cf7 := X4.out.cell 1 rfl
  have cf8 := X4.out.fz 1
  have cl9 := X4.out.lt
  have H10 := Hid.mk (H2.out.set (k := K) (i := 1) (v := .int .i64 4) (by omega))
  have B11 := Hid.mk (B3.out.put (k := K) (i := 1) (by omega) (.int .i64 4))
  have X12 : Hid (Box (w1.setCell ⟨K, 1, none⟩ (.int .i64 4)) K [.int .i64 (at_ : Nat), .int .i64 4, vo, .slice none 0 0, .slice none 0 0, .string ⟨#[]⟩, .string ⟨#[]⟩, .int .i64 0, .int .i64 0, .string ⟨#[]⟩, .string ⟨#[]⟩, .int .i64 0, .int .i64 0, .string ⟨#[]⟩, .int .i64 retry]) := Hid.mk (X4.out.set 1 (.int .i64 4))
  clear H2 B3 X4
  go_wp2_with (go_at_call 56; fail)
  refine (rname_any R ts1 _ H10.out).mono ?_
  rintro e w2 ⟨⟨a2, ts2, v, hp, rfl, hv, hrd⟩ | ⟨er, hp, hthr⟩, hb2⟩
  rotate_left
  · obtain ⟨b', rfl, t0, t1, tB, tl⟩ := hthr
    have HP := Hid.mk (bind_err E1.out hp)
    clear hp
    go_wp2
    exact ⟨rfl, Or.inr ⟨_, HP.out, b', rfl, t0, t1, Nat.le_trans B11.out.size tB, tl⟩, B11.out.then hb2⟩
  unfold encS at hv
  subst hv
  have he := bind_ok E1.out hp
  dsimp only at he
  have E13 := Hid.mk he
  clear he hp
  have H14 := Hid.mk hrd
  have B15 := Hid.mk (B11.out.then hb2)
  have X16 := Hid.mk (X12.out.but hb2 (by omega))
  have q17 := X16.out.lt
  have sz18 := hb2.size
  try simp only [World.size_alloc, size_set] at sz18
  clear H10 B11 X12 E1 hrd hb2
  have cf19 := X16.out.cell 1 rfl
  have cf20 := X16.out.cell 3 rfl
  have cf21 := X16.out.fz 3
  have cl22 := X16.out.lt
  have H23 := Hid.mk (H14.out.set (k := K) (i := 3) (v := .slice (some ⟨w2.heap.size, 0, none⟩) 1 1) (by omega))
  have B24 := Hid.mk (B15.out.put (k := K) (i := 3) (by omega) (.slice (some ⟨w2.heap.size, 0, none⟩) 1 1))
  have X25 : Hid (Box (w2.setCell ⟨K, 3, none⟩ (.slice (some ⟨w2.heap.size, 0, none⟩) 1 1)) K [.int .i64 (at_ : Nat), .int .i64 4, vo, .slice (some ⟨w2.heap.size, 0, none⟩) 1 1, .slice none 0 0, .string ⟨#[]⟩, .string ⟨#[]⟩, .int .i64 0, .int .i64 0, .string ⟨#[]⟩, .string ⟨#[]⟩, .int .i64 0, .int .i64 0, .string ⟨#[]⟩, .int .i64 retry]) := Hid.mk (X16.out.set 3 (.slice (some ⟨w2.heap.size, 0, none⟩) 1 1))
  clear H14 B15 X16
  have H26 := Hid.mk (H23.out.below (below_box _ (.cells #[.string (ba a2)] 9)))
  have B27 := Hid.mk (B24.out.box (.cells #[.string (ba a2)] 9))
  have X28 := Hid.mk (X25.out.below (below_box _ (.cells #[.string (ba a2)] 9)))
  have O29 := Hid.mk (own_new1 (w2.setCell ⟨K, 3, none⟩ (.slice (some ⟨w2.heap.size, 0, none⟩) 1 1)) w.heap.size 9 (strV [a2]) 1 w2.heap.size rfl (B24.out.size) (size_set _ _ _).symm)
  have hsqB27 := B24.out.size
  simp only [size_set] at hsqB27
  clear H23 B24 X25 
  have he := E13.out
  rw [if_neg (by decide), if_neg (by decide), if_pos (by decide)] at he
  have E30 := Hid.mk he
  clear he E13
  go_wp2_with (go_at_call 55; fail)
  refine (must_any wBy R ts2 _ H26.out (by decide)).mono ?_
  rintro e w3 ⟨⟨a3, ts3, v, hp, rfl, hv, hrd⟩ | ⟨er, hp, hthr⟩, hb3⟩
  rotate_left
  · obtain ⟨b', rfl, t0, t1, tB, tl⟩ := hthr
    have HP := Hid.mk (bind_err E30.out hp)
    clear hp
    go_wp2
    exact ⟨rfl, Or.inr ⟨_, HP.out, b', rfl, t0, t1, Nat.le_trans B27.out.size tB, tl⟩, B27.out.then hb3⟩
  subst hv
  have he := bind_ok E30.out hp
  dsimp only at he
  have E31 := Hid.mk he
  clear he hp
  have H32 := Hid.mk hrd
  have B33 := Hid.mk (B27.out.then hb3)
  have X34 := Hid.mk (X28.out.but hb3 (by omega))
  have q35 := X34.out.lt
  have O36 := Hid.mk (own_but O29.out hb3 (by omega))
  have sz37 := hb3.size
  try simp only [World.size_alloc, size_set] at sz37
  clear H26 B27 X28 O29 E30 hrd hb3
  go_wp2_with (go_at_call 59; fail)
  refine (rnames_any R ts3 _ H32.out).mono ?_
  rintro e w4 ⟨⟨a4, ts4, v, hp, rfl, hv, hrd⟩ | ⟨er, hp, hthr⟩, hb4⟩
  rotate_left
  · obtain ⟨b', rfl, t0, t1, tB, tl⟩ := hthr
    have HP := Hid.mk (bind_err E31.out hp)
    clear hp
    go_wp2
    exact ⟨rfl, Or.inr ⟨_, HP.out, b', rfl, t0, t1, Nat.le_trans B33.out.size tB, tl⟩, B33.out.then hb4⟩
  unfold encL at hv
  obtain ⟨na, nc, hve⟩ := own_slice hv
  subst hve
  have OC := Hid.mk (own_mono (B := w.heap.size) (B33.out.size) hv)
  clear hv
  have he := bind_ok E31.out hp
  dsimp only at he
  have E38 := Hid.mk he
  clear he hp
  have H39 := Hid.mk hrd
  have B40 := Hid.mk (B33.out.then hb4)
  have X41 := Hid.mk (X34.out.but hb4 (by omega))
  have q42 := X41.out.lt
  have O43 := Hid.mk (own_but O36.out hb4 (by omega))
  have sz44 := hb4.size
  try simp only [World.size_alloc, size_set] at sz44
  clear H32 B33 X34 O36 E31 hrd hb4
  have cf45 := X41.out.cell 4 rfl
  have cf46 := X41.out.fz 4
  have cl47 := X41.out.lt
  have H48 := Hid.mk (H39.out.set (k := K) (i := 4) (v := .slice na a4.length nc) (by omega))
  have B49 := Hid.mk (B40.out.put (k := K) (i := 4) (by omega) (.slice na a4.length nc))
  have X50 : Hid (Box (w4.setCell ⟨K, 4, none⟩ (.slice na a4.length nc)) K [.int .i64 (at_ : Nat), .int .i64 4, vo, .slice (some ⟨w2.heap.size, 0, none⟩) 1 1, .slice na a4.length nc, .string ⟨#[]⟩, .string ⟨#[]⟩, .int .i64 0, .int .i64 0, .string ⟨#[]⟩, .string ⟨#[]⟩, .int .i64 0, .int .i64 0, .string ⟨#[]⟩, .int .i64 retry]) := Hid.mk (X41.out.set 4 (.slice na a4.length nc))
  have O51 := Hid.mk (ownsRow_setCell_below O43.out (a := ⟨K, 4, none⟩) (by show K < _; omega) (.slice na a4.length nc))
  have O52 := Hid.mk (ownsRow_setCell_below OC.out (a := ⟨K, 4, none⟩) (by show K < _; omega) (.slice na a4.length nc))
  clear H39 B40 X41 O43 OC
  go_wp2
  go_end0
  exact ⟨Or.inl ⟨_, _, .slice (some ⟨w2.heap.size, 0, none⟩) 1 1, .slice na a4.length nc, E38.out, rfl, H48.out, X50.out, O51.out, O52.out⟩, B49.out⟩
end Go.Proofs.YtedflhiflomoeaaGreatDoor
