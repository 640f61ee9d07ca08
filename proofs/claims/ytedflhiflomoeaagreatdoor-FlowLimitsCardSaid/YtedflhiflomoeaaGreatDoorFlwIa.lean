import Derived.Test.YtedflhiflomoeaaGreatDoorFlwH
set_option linter.unusedSimpArgs false
set_option linter.unusedVariables false
namespace Go.Proofs.YtedflhiflomoeaaGreatDoor
open Go.RowKit

/-- All is as it was, but two blocks. -/
structure But2 (R K : Nat) (w w' : World) : Prop where
  os : w'.os = w.os
  tape : w'.tape = w.tape
  output : w'.output = w.output
  size : w.heap.size ≤ w'.heap.size
  block : ∀ k, k < w.heap.size → k ≠ R → k ≠ K → w'.heap[k]? = w.heap[k]?
theorem But2.refl (R K : Nat) (w : World) : But2 R K w w := ⟨rfl, rfl, rfl, Nat.le_refl _, fun _ _ _ _ => rfl⟩
theorem But2.then {R K : Nat} {a b c : World} (h : But2 R K a b) (k : But R b c) : But2 R K a c :=
  ⟨k.os.trans h.os, k.tape.trans h.tape, k.output.trans h.output, Nat.le_trans h.size k.size, fun i hi h1 h2 => (k.block i (Nat.lt_of_lt_of_le hi h.size) (by intro e; injection e with e; exact h1 e)).trans (h.block i hi h1 h2)⟩
theorem But2.box {R K : Nat} {w w' : World} (h : But2 R K w w') (o : Obj) : But2 R K w (w'.alloc o) := h.then (But.of (below_box _ _))
theorem But2.drew {R K : Nat} {w w' : World} (h : But2 R K w w') : But2 R K w w'.drew := h.then (But.of (Below.refl _ _).drew)
theorem But2.put {R K k i : Nat} {w w' : World} (h : But2 R K w w') (hk : k = K ∨ w.heap.size ≤ k) (v : Value) : But2 R K w (w'.setCell ⟨k, i, none⟩ v) :=
  ⟨h.os, h.tape, h.output, by have := h.size; simp [World.setCell]; omega, fun j hj h1 h2 => (Below.heap_setCell _ _ _ _ (by show j ≠ k; omega)).trans (h.block j hj h1 h2)⟩
theorem But2.grown {R K : Nat} {w w1 w2 : World} {row : Option Nat} (h : But2 R K w w1) (hg : w1.grownBy w2 row) (hr : ∀ k, row = some k → w.heap.size ≤ k) : But2 R K w w2 :=
  ⟨hg.os.trans h.os, hg.tape.trans h.tape, hg.output.trans h.output, Nat.le_trans h.size hg.size, fun i hi h1 h2 => (hg.block i (Nat.lt_of_lt_of_le hi h.size) (fun e => by have := hr i e.symm; omega)).trans (h.block i hi h1 h2)⟩
def jobV (j : FJob) (vo vi vc : Value) : List Value := [.int .i64 (j.at_ : Nat), .int .i64 j.code, vo, vi, vc, .string (ba j.op), .string (ba j.left.1), .int .i64 j.left.2.1, .int .i64 j.left.2.2.1, .string (ba j.left.2.2.2), .string (ba j.right.1), .int .i64 j.right.2.1, .int .i64 j.right.2.2.1, .string (ba j.right.2.2.2), .int .i64 j.retry]
def BodyR (r : PE FJob) (vo : Value) (K : Nat) (e : Ending) (B : Nat) (w' : World) (R : Nat) : Prop :=
  (∃ j ts' vi vc, r = .ok (j, ts') ∧ e = .returned (.tuple #[]) ∧ RD w' R ts' ∧ Box w' K (jobV j vo vi vc) ∧ encL B j.ins vi w' ∧ encL B j.cols vc w') ∨ (∃ er, r = .error er ∧ Thr e w' B er)
theorem code_range {ts ts' : List Tk} {c : Int} (h : codeP ts = .ok (c, ts')) : c = 1 ∨ c = 2 ∨ c = 3 ∨ c = 4 ∨ c = 5 ∨ c = 6 ∨ c = 7 ∨ c = 8 ∨ c = 9 := by
  unfold codeP at h
  split at h
  · rename_i i hi
    rw [List.findIdx?_eq_some_iff_getElem] at hi
    obtain ⟨hl, -⟩ := hi
    have h9 : verbsL.length = 9 := rfl
    simp only [Except.ok.injEq, Prod.mk.injEq] at h
    omega
  · cases h
theorem texts_new (w : World) (l : List By) (hl : l.length ≤ 1000) (H : Nat) (hH : w.heap.size = H) : TextsAt (w.alloc (.cells (strV l).toArray 9)) (.slice (some ⟨H, 0, none⟩) l.length l.length) l := by
  refine ⟨H, 0, l.length, rfl, by simp; omega, hl, fun j hj => ?_⟩
  have := (Box.new w (strV l) 9 H hH.symm).cell j (v := .string (ba l[j])) (by simp [strV, hj])
  simpa using this
set_option maxRecDepth 100000 in
set_option maxHeartbeats 6400000 in
theorem rbody_c1 (at_ : Nat) (outs : List By) (retry : Int) (vo : Value) (K R : Nat) (ts : List Tk) (w : World) (h : RD w R ts) (hK : Box w K [.int .i64 (at_ : Nat), .int .i64 0, vo, .slice none 0 0, .slice none 0 0, .string ⟨#[]⟩, .string ⟨#[]⟩, .int .i64 0, .int .i64 0, .string ⟨#[]⟩, .string ⟨#[]⟩, .int .i64 0, .int .i64 0, .string ⟨#[]⟩, .int .i64 retry]) (hKR : R < K) (hcd : ∀ c t, codeP ts = .ok (c, t) → c = 1) :
    Calls Tryz.prog 61 #[.pointer (some ⟨R, 0, none⟩), .pointer (some ⟨K, 0, none⟩)] w fun e w' => BodyR (bodyP at_ outs retry ts) vo K e w.heap.size w' R ∧ But2 R K w w' := by
  obtain ⟨i0, hi, hz0, hz1, hz2⟩ := info_parts Tryz.infoStr
  have hR := h.lt
  have hKl := hK.lt
  have H0 := Hid.mk h
  have B0 := Hid.mk (But2.refl R K w)
  have X0 := Hid.mk hK
  have E0 := Hid.mk (bodyP.eq_1 at_ outs retry ts)
  clear h hK
  go_enter Tryz.func61, Tryz.ntmps61
  go_wp2_with (go_at_call 79; fail)
  refine (rcode_any R ts _ H0.out).mono ?_
  rintro e w1 ⟨⟨a1, ts1, v, hp, rfl, hv, hrd⟩ | ⟨er, hp, hthr⟩, hb1⟩
  rotate_left
  · obtain ⟨b', rfl, t0, t1, tB, tl⟩ := hthr
    have HP := Hid.mk (bind_err E0.out hp)
    clear hp
    go_wp2
    exact ⟨rfl, Or.inr ⟨_, HP.out, b', rfl, t0, t1, Nat.le_trans B0.out.size tB, tl⟩, B0.out.then hb1⟩
  unfold encI at hv
  subst hv
  have hcr := hcd _ _ hp
  subst hcr
  have he := bind_ok E0.out hp
  dsimp only at he
  have E1 := Hid.mk he
  clear he hp
  have H2 := Hid.mk hrd
  have B3 := Hid.mk (B0.out.then hb1)
  have X4 := Hid.mk (X0.out.but hb1 (by omega))
  have q5 := X4.out.lt
  have sz6 := hb1.size
  try simp only [World.size_alloc, size_set] at sz6
  clear H0 B0 X0 E0 hrd hb1
  clear hcd
  have cf7 := X4.out.cell 1 rfl
  have cf8 := X4.out.fz 1
  have cl9 := X4.out.lt
  have H10 := Hid.mk (H2.out.set (k := K) (i := 1) (v := .int .i64 1) (by omega))
  have B11 := Hid.mk (B3.out.put (k := K) (i := 1) (by omega) (.int .i64 1))
  have X12 : Hid (Box (w1.setCell ⟨K, 1, none⟩ (.int .i64 1)) K [.int .i64 (at_ : Nat), .int .i64 1, vo, .slice none 0 0, .slice none 0 0, .string ⟨#[]⟩, .string ⟨#[]⟩, .int .i64 0, .int .i64 0, .string ⟨#[]⟩, .string ⟨#[]⟩, .int .i64 0, .int .i64 0, .string ⟨#[]⟩, .int .i64 retry]) := Hid.mk (X4.out.set 1 (.int .i64 1))
  clear H2 B3 X4
  go_wp2_with (go_at_call 56; fail)
  refine (rname_any R ts1 _ H10.out).mono ?_
  rintro e w2 ⟨⟨a2, ts2, v, hp, rfl, hv, hrd⟩ | ⟨er, hp, hthr⟩, hb2⟩
  rotate_left
  · obtain ⟨b', rfl, t0, t1, tB, tl⟩ := hthr
    have HP := Hid.mk (bind_err E1.out hp)
    clear hp
    go_wp2
    exact ⟨rfl, Or.inr ⟨_, HP.out, b', rfl, t0, t1, Nat.le_trans B11.out.size tB, tl⟩, B11.out.then hb2⟩
  unfold encS at hv
  subst hv
  have he := bind_ok E1.out hp
  dsimp only at he
  have E13 := Hid.mk he
  clear he hp
  have H14 := Hid.mk hrd
  have B15 := Hid.mk (B11.out.then hb2)
  have X16 := Hid.mk (X12.out.but hb2 (by omega))
  have q17 := X16.out.lt
  have sz18 := hb2.size
  try simp only [World.size_alloc, size_set] at sz18
  clear H10 B11 X12 E1 hrd hb2
  have cf19 := X16.out.cell 1 rfl
  have cf20 := X16.out.cell 3 rfl
  have cf21 := X16.out.fz 3
  have cl22 := X16.out.lt
  have H23 := Hid.mk (H14.out.set (k := K) (i := 3) (v := .slice (some ⟨w2.heap.size, 0, none⟩) 1 1) (by omega))
  have B24 := Hid.mk (B15.out.put (k := K) (i := 3) (by omega) (.slice (some ⟨w2.heap.size, 0, none⟩) 1 1))
  have X25 : Hid (Box (w2.setCell ⟨K, 3, none⟩ (.slice (some ⟨w2.heap.size, 0, none⟩) 1 1)) K [.int .i64 (at_ : Nat), .int .i64 1, vo, .slice (some ⟨w2.heap.size, 0, none⟩) 1 1, .slice none 0 0, .string ⟨#[]⟩, .string ⟨#[]⟩, .int .i64 0, .int .i64 0, .string ⟨#[]⟩, .string ⟨#[]⟩, .int .i64 0, .int .i64 0, .string ⟨#[]⟩, .int .i64 retry]) := Hid.mk (X16.out.set 3 (.slice (some ⟨w2.heap.size, 0, none⟩) 1 1))
  clear H14 B15 X16
  have H26 := Hid.mk (H23.out.below (below_box _ (.cells #[.string (ba a2)] 9)))
  have B27 := Hid.mk (B24.out.box (.cells #[.string (ba a2)] 9))
  have X28 := Hid.mk (X25.out.below (below_box _ (.cells #[.string (ba a2)] 9)))
  have O29 := Hid.mk (own_new1 (w2.setCell ⟨K, 3, none⟩ (.slice (some ⟨w2.heap.size, 0, none⟩) 1 1)) w.heap.size 9 (strV [a2]) 1 w2.heap.size rfl (B24.out.size) (size_set _ _ _).symm)
  have hsqB27 := B24.out.size
  simp only [size_set] at hsqB27
  clear H23 B24 X25 
  have he := E13.out
  rw [if_pos (by decide)] at he
  have E30 := Hid.mk he
  clear he E13
  go_wp2_with (go_at_call 55; fail)
  refine (must_any wWhere R ts2 _ H26.out (by decide)).mono ?_
  rintro e w3 ⟨⟨a3, ts3, v, hp, rfl, hv, hrd⟩ | ⟨er, hp, hthr⟩, hb3⟩
  rotate_left
  · obtain ⟨b', rfl, t0, t1, tB, tl⟩ := hthr
    have HP := Hid.mk (bind_err E30.out hp)
    clear hp
    go_wp2
    exact ⟨rfl, Or.inr ⟨_, HP.out, b', rfl, t0, t1, Nat.le_trans B27.out.size tB, tl⟩, B27.out.then hb3⟩
  subst hv
  have he := bind_ok E30.out hp
  dsimp only at he
  have E31 := Hid.mk he
  clear he hp
  have H32 := Hid.mk hrd
  have B33 := Hid.mk (B27.out.then hb3)
  have X34 := Hid.mk (X28.out.but hb3 (by omega))
  have q35 := X34.out.lt
  have O36 := Hid.mk (own_but O29.out hb3 (by omega))
  have sz37 := hb3.size
  try simp only [World.size_alloc, size_set] at sz37
  clear H26 B27 X28 O29 E30 hrd hb3
  go_wp2_with (go_at_call 56; fail)
  refine (rname_any R ts3 _ H32.out).mono ?_
  rintro e w4 ⟨⟨a4, ts4, v, hp, rfl, hv, hrd⟩ | ⟨er, hp, hthr⟩, hb4⟩
  rotate_left
  · obtain ⟨b', rfl, t0, t1, tB, tl⟩ := hthr
    have HP := Hid.mk (bind_err E31.out hp)
    clear hp
    go_wp2
    exact ⟨rfl, Or.inr ⟨_, HP.out, b', rfl, t0, t1, Nat.le_trans B33.out.size tB, tl⟩, B33.out.then hb4⟩
  unfold encS at hv
  subst hv
  have he := bind_ok E31.out hp
  dsimp only at he
  have E38 := Hid.mk he
  clear he hp
  have H39 := Hid.mk hrd
  have B40 := Hid.mk (B33.out.then hb4)
  have X41 := Hid.mk (X34.out.but hb4 (by omega))
  have q42 := X41.out.lt
  have O43 := Hid.mk (own_but O36.out hb4 (by omega))
  have sz44 := hb4.size
  try simp only [World.size_alloc, size_set] at sz44
  clear H32 B33 X34 O36 E31 hrd hb4
  have cf45 := X41.out.cell 6 rfl
  have cf46 := X41.out.fz 6
  have cl47 := X41.out.lt
  have H48 := Hid.mk (H39.out.set (k := K) (i := 6) (v := .string (ba a4)) (by omega))
  have B49 := Hid.mk (B40.out.put (k := K) (i := 6) (by omega) (.string (ba a4)))
  have X50 : Hid (Box (w4.setCell ⟨K, 6, none⟩ (.string (ba a4))) K [.int .i64 (at_ : Nat), .int .i64 1, vo, .slice (some ⟨w2.heap.size, 0, none⟩) 1 1, .slice none 0 0, .string ⟨#[]⟩, .string (ba a4), .int .i64 0, .int .i64 0, .string ⟨#[]⟩, .string ⟨#[]⟩, .int .i64 0, .int .i64 0, .string ⟨#[]⟩, .int .i64 retry]) := Hid.mk (X41.out.set 6 (.string (ba a4)))
  have O51 := Hid.mk (ownsRow_setCell_below O43.out (a := ⟨K, 6, none⟩) (by show K < _; omega) (.string (ba a4)))
  clear H39 B40 X41 O43
  have H52 := Hid.mk (H48.out.below (below_box _ (.cells #[.string ⟨#[61]⟩, .string ⟨#[60, 62]⟩, .string ⟨#[60]⟩, .string ⟨#[60, 61]⟩, .string ⟨#[62]⟩, .string ⟨#[62, 61]⟩] 9)))
  have B53 := Hid.mk (B49.out.box (.cells #[.string ⟨#[61]⟩, .string ⟨#[60, 62]⟩, .string ⟨#[60]⟩, .string ⟨#[60, 61]⟩, .string ⟨#[62]⟩, .string ⟨#[62, 61]⟩] 9))
  have X54 := Hid.mk (X50.out.below (below_box _ (.cells #[.string ⟨#[61]⟩, .string ⟨#[60, 62]⟩, .string ⟨#[60]⟩, .string ⟨#[60, 61]⟩, .string ⟨#[62]⟩, .string ⟨#[62, 61]⟩] 9)))
  have O55 := Hid.mk (O51.out.alloc (.cells #[.string ⟨#[61]⟩, .string ⟨#[60, 62]⟩, .string ⟨#[60]⟩, .string ⟨#[60, 61]⟩, .string ⟨#[62]⟩, .string ⟨#[62, 61]⟩] 9))
  clear H48 B49 X50 O51
  have TX56 : Hid (TextsAt ((w4.setCell ⟨K, 6, none⟩ (.string (ba a4))).alloc (.cells #[.string ⟨#[61]⟩, .string ⟨#[60, 62]⟩, .string ⟨#[60]⟩, .string ⟨#[60, 61]⟩, .string ⟨#[62]⟩, .string ⟨#[62, 61]⟩] 9)) (.slice (some ⟨w4.heap.size, 0, none⟩) 6 6) cmpL) := Hid.mk (texts_new (w4.setCell ⟨K, 6, none⟩ (.string (ba a4))) cmpL (by decide) (w4.heap.size) (by simp only [World.size_alloc, size_set]))
  go_wp2_with (go_at_call 80; fail)
  refine (roneOf_any (.slice (some ⟨w4.heap.size, 0, none⟩) 6 6) cmpL R ts4 ((w4.setCell ⟨K, 6, none⟩ (.string (ba a4))).alloc (.cells #[.string ⟨#[61]⟩, .string ⟨#[60, 62]⟩, .string ⟨#[60]⟩, .string ⟨#[60, 61]⟩, .string ⟨#[62]⟩, .string ⟨#[62, 61]⟩] 9)) H52.out TX56.out (by decide)).mono ?_
  rintro e w5 ⟨⟨a5, ts5, v, hp, rfl, hv, hrd⟩ | ⟨er, hp, hthr⟩, hb5⟩
  rotate_left
  · obtain ⟨b', rfl, t0, t1, tB, tl⟩ := hthr
    have HP := Hid.mk (bind_err E38.out hp)
    clear hp
    go_wp2
    exact ⟨rfl, Or.inr ⟨_, HP.out, b', rfl, t0, t1, Nat.le_trans B53.out.size tB, tl⟩, B53.out.then hb5⟩
  unfold encS at hv
  subst hv
  have he := bind_ok E38.out hp
  dsimp only at he
  have E57 := Hid.mk he
  clear he hp
  have H58 := Hid.mk hrd
  have B59 := Hid.mk (B53.out.then hb5)
  have X60 := Hid.mk (X54.out.but hb5 (by omega))
  have q61 := X60.out.lt
  have O62 := Hid.mk (own_but O55.out hb5 (by omega))
  have sz63 := hb5.size
  try simp only [World.size_alloc, size_set] at sz63
  clear H52 B53 X54 O55 E38 hrd hb5
  have cf64 := X60.out.cell 5 rfl
  have cf65 := X60.out.fz 5
  have cl66 := X60.out.lt
  have H67 := Hid.mk (H58.out.set (k := K) (i := 5) (v := .string (ba a5)) (by omega))
  have B68 := Hid.mk (B59.out.put (k := K) (i := 5) (by omega) (.string (ba a5)))
  have X69 : Hid (Box (w5.setCell ⟨K, 5, none⟩ (.string (ba a5))) K [.int .i64 (at_ : Nat), .int .i64 1, vo, .slice (some ⟨w2.heap.size, 0, none⟩) 1 1, .slice none 0 0, .string (ba a5), .string (ba a4), .int .i64 0, .int .i64 0, .string ⟨#[]⟩, .string ⟨#[]⟩, .int .i64 0, .int .i64 0, .string ⟨#[]⟩, .int .i64 retry]) := Hid.mk (X60.out.set 5 (.string (ba a5)))
  have O70 := Hid.mk (ownsRow_setCell_below O62.out (a := ⟨K, 5, none⟩) (by show K < _; omega) (.string (ba a5)))
  clear H58 B59 X60 O62
  go_wp2_with (go_at_call 81; fail)
  refine (rarg_any R ts5 _ H67.out).mono ?_
  rintro e w6 ⟨⟨a6, ts6, v, hp, rfl, hv, hrd⟩ | ⟨er, hp, hthr⟩, hb6⟩
  rotate_left
  · obtain ⟨b', rfl, t0, t1, tB, tl⟩ := hthr
    have HP := Hid.mk (bind_err E57.out hp)
    clear hp
    go_wp2
    exact ⟨rfl, Or.inr ⟨_, HP.out, b', rfl, t0, t1, Nat.le_trans B68.out.size tB, tl⟩, B68.out.then hb6⟩
  unfold encA at hv
  subst hv
  have he := bind_ok E57.out hp
  dsimp only at he
  have E71 := Hid.mk he
  clear he hp
  have H72 := Hid.mk hrd
  have B73 := Hid.mk (B68.out.then hb6)
  have X74 := Hid.mk (X69.out.but hb6 (by omega))
  have q75 := X74.out.lt
  have O76 := Hid.mk (own_but O70.out hb6 (by omega))
  have sz77 := hb6.size
  try simp only [World.size_alloc, size_set] at sz77
  clear H67 B68 X69 O70 E57 hrd hb6
  have cf78 := X74.out.cell 10 rfl
  have cf79 := X74.out.fz 10
  have cf80 := X74.out.cell 11 rfl
  have cf81 := X74.out.fz 11
  have cf82 := X74.out.cell 12 rfl
  have cf83 := X74.out.fz 12
  have cf84 := X74.out.cell 13 rfl
  have cf85 := X74.out.fz 13
  have cl86 := X74.out.lt
  have H87 := Hid.mk (H72.out.set (k := K) (i := 10) (v := .string (ba a6.1)) (by omega))
  have B88 := Hid.mk (B73.out.put (k := K) (i := 10) (by omega) (.string (ba a6.1)))
  have X89 : Hid (Box (w6.setCell ⟨K, 10, none⟩ (.string (ba a6.1))) K [.int .i64 (at_ : Nat), .int .i64 1, vo, .slice (some ⟨w2.heap.size, 0, none⟩) 1 1, .slice none 0 0, .string (ba a5), .string (ba a4), .int .i64 0, .int .i64 0, .string ⟨#[]⟩, .string (ba a6.1), .int .i64 0, .int .i64 0, .string ⟨#[]⟩, .int .i64 retry]) := Hid.mk (X74.out.set 10 (.string (ba a6.1)))
  have O90 := Hid.mk (ownsRow_setCell_below O76.out (a := ⟨K, 10, none⟩) (by show K < _; omega) (.string (ba a6.1)))
  clear H72 B73 X74 O76
  have H91 := Hid.mk (H87.out.set (k := K) (i := 11) (v := .int .i64 a6.2.1) (by omega))
  have B92 := Hid.mk (B88.out.put (k := K) (i := 11) (by omega) (.int .i64 a6.2.1))
  have X93 : Hid (Box ((w6.setCell ⟨K, 10, none⟩ (.string (ba a6.1))).setCell ⟨K, 11, none⟩ (.int .i64 a6.2.1)) K [.int .i64 (at_ : Nat), .int .i64 1, vo, .slice (some ⟨w2.heap.size, 0, none⟩) 1 1, .slice none 0 0, .string (ba a5), .string (ba a4), .int .i64 0, .int .i64 0, .string ⟨#[]⟩, .string (ba a6.1), .int .i64 a6.2.1, .int .i64 0, .string ⟨#[]⟩, .int .i64 retry]) := Hid.mk (X89.out.set 11 (.int .i64 a6.2.1))
  have O94 := Hid.mk (ownsRow_setCell_below O90.out (a := ⟨K, 11, none⟩) (by show K < _; omega) (.int .i64 a6.2.1))
  clear H87 B88 X89 O90
  have H95 := Hid.mk (H91.out.set (k := K) (i := 12) (v := .int .i64 a6.2.2.1) (by omega))
  have B96 := Hid.mk (B92.out.put (k := K) (i := 12) (by omega) (.int .i64 a6.2.2.1))
  have X97 : Hid (Box (((w6.setCell ⟨K, 10, none⟩ (.string (ba a6.1))).setCell ⟨K, 11, none⟩ (.int .i64 a6.2.1)).setCell ⟨K, 12, none⟩ (.int .i64 a6.2.2.1)) K [.int .i64 (at_ : Nat), .int .i64 1, vo, .slice (some ⟨w2.heap.size, 0, none⟩) 1 1, .slice none 0 0, .string (ba a5), .string (ba a4), .int .i64 0, .int .i64 0, .string ⟨#[]⟩, .string (ba a6.1), .int .i64 a6.2.1, .int .i64 a6.2.2.1, .string ⟨#[]⟩, .int .i64 retry]) := Hid.mk (X93.out.set 12 (.int .i64 a6.2.2.1))
  have O98 := Hid.mk (ownsRow_setCell_below O94.out (a := ⟨K, 12, none⟩) (by show K < _; omega) (.int .i64 a6.2.2.1))
  clear H91 B92 X93 O94
  have H99 := Hid.mk (H95.out.set (k := K) (i := 13) (v := .string (ba a6.2.2.2)) (by omega))
  have B100 := Hid.mk (B96.out.put (k := K) (i := 13) (by omega) (.string (ba a6.2.2.2)))
  have X101 : Hid (Box ((((w6.setCell ⟨K, 10, none⟩ (.string (ba a6.1))).setCell ⟨K, 11, none⟩ (.int .i64 a6.2.1)).setCell ⟨K, 12, none⟩ (.int .i64 a6.2.2.1)).setCell ⟨K, 13, none⟩ (.string (ba a6.2.2.2))) K [.int .i64 (at_ : Nat), .int .i64 1, vo, .slice (some ⟨w2.heap.size, 0, none⟩) 1 1, .slice none 0 0, .string (ba a5), .string (ba a4), .int .i64 0, .int .i64 0, .string ⟨#[]⟩, .string (ba a6.1), .int .i64 a6.2.1, .int .i64 a6.2.2.1, .string (ba a6.2.2.2), .int .i64 retry]) := Hid.mk (X97.out.set 13 (.string (ba a6.2.2.2)))
  have O102 := Hid.mk (ownsRow_setCell_below O98.out (a := ⟨K, 13, none⟩) (by show K < _; omega) (.string (ba a6.2.2.2)))
  clear H95 B96 X97 O98
  go_wp2
  go_end0
  exact ⟨Or.inl ⟨_, _, .slice (some ⟨w2.heap.size, 0, none⟩) 1 1, .slice none 0 0, E71.out, rfl, H99.out, X101.out, O102.out, World.ownsRow_nil _ _ _ _⟩, B100.out⟩
set_option maxRecDepth 100000 in
set_option maxHeartbeats 6400000 in
theorem rbody_c9 (at_ : Nat) (outs : List By) (retry : Int) (vo : Value) (K R : Nat) (ts : List Tk) (w : World) (h : RD w R ts) (hK : Box w K [.int .i64 (at_ : Nat), .int .i64 0, vo, .slice none 0 0, .slice none 0 0, .string ⟨#[]⟩, .string ⟨#[]⟩, .int .i64 0, .int .i64 0, .string ⟨#[]⟩, .string ⟨#[]⟩, .int .i64 0, .int .i64 0, .string ⟨#[]⟩, .int .i64 retry]) (hKR : R < K) (hcd : ∀ c t, codeP ts = .ok (c, t) → c = 9) :
    Calls Tryz.prog 61 #[.pointer (some ⟨R, 0, none⟩), .pointer (some ⟨K, 0, none⟩)] w fun e w' => BodyR (bodyP at_ outs retry ts) vo K e w.heap.size w' R ∧ But2 R K w w' := by
  obtain ⟨i0, hi, hz0, hz1, hz2⟩ := info_parts Tryz.infoStr
  have hR := h.lt
  have hKl := hK.lt
  have H0 := Hid.mk h
  have B0 := Hid.mk (But2.refl R K w)
  have X0 := Hid.mk hK
  have E0 := Hid.mk (bodyP.eq_1 at_ outs retry ts)
  clear h hK
  go_enter Tryz.func61, Tryz.ntmps61
  go_wp2_with (go_at_call 79; fail)
  refine (rcode_any R ts _ H0.out).mono ?_
  rintro e w1 ⟨⟨a1, ts1, v, hp, rfl, hv, hrd⟩ | ⟨er, hp, hthr⟩, hb1⟩
  rotate_left
  · obtain ⟨b', rfl, t0, t1, tB, tl⟩ := hthr
    have HP := Hid.mk (bind_err E0.out hp)
    clear hp
    go_wp2
    exact ⟨rfl, Or.inr ⟨_, HP.out, b', rfl, t0, t1, Nat.le_trans B0.out.size tB, tl⟩, B0.out.then hb1⟩
  unfold encI at hv
  subst hv
  have hcr := hcd _ _ hp
  subst hcr
  have he := bind_ok E0.out hp
  dsimp only at he
  have E1 := Hid.mk he
  clear he hp
  have H2 := Hid.mk hrd
  have B3 := Hid.mk (B0.out.then hb1)
  have X4 := Hid.mk (X0.out.but hb1 (by omega))
  have q5 := X4.out.lt
  have sz6 := hb1.size
  try simp only [World.size_alloc, size_set] at sz6
  clear H0 B0 X0 E0 hrd hb1
  clear hcd
  have cf7 := X4.out.cell 1 rfl
  have cf8 := X4.out.fz 1
  have cl9 := X4.out.lt
  have H10 := Hid.mk (H2.out.set (k := K) (i := 1) (v := .int .i64 9) (by omega))
  have B11 := Hid.mk (B3.out.put (k := K) (i := 1) (by omega) (.int .i64 9))
  have X12 : Hid (Box (w1.setCell ⟨K, 1, none⟩ (.int .i64 9)) K [.int .i64 (at_ : Nat), .int .i64 9, vo, .slice none 0 0, .slice none 0 0, .string ⟨#[]⟩, .string ⟨#[]⟩, .int .i64 0, .int .i64 0, .string ⟨#[]⟩, .string ⟨#[]⟩, .int .i64 0, .int .i64 0, .string ⟨#[]⟩, .int .i64 retry]) := Hid.mk (X4.out.set 1 (.int .i64 9))
  clear H2 B3 X4
  go_wp2_with (go_at_call 56; fail)
  refine (rname_any R ts1 _ H10.out).mono ?_
  rintro e w2 ⟨⟨a2, ts2, v, hp, rfl, hv, hrd⟩ | ⟨er, hp, hthr⟩, hb2⟩
  rotate_left
  · obtain ⟨b', rfl, t0, t1, tB, tl⟩ := hthr
    have HP := Hid.mk (bind_err E1.out hp)
    clear hp
    go_wp2
    exact ⟨rfl, Or.inr ⟨_, HP.out, b', rfl, t0, t1, Nat.le_trans B11.out.size tB, tl⟩, B11.out.then hb2⟩
  unfold encS at hv
  subst hv
  have he := bind_ok E1.out hp
  dsimp only at he
  have E13 := Hid.mk he
  clear he hp
  have H14 := Hid.mk hrd
  have B15 := Hid.mk (B11.out.then hb2)
  have X16 := Hid.mk (X12.out.but hb2 (by omega))
  have q17 := X16.out.lt
  have sz18 := hb2.size
  try simp only [World.size_alloc, size_set] at sz18
  clear H10 B11 X12 E1 hrd hb2
  have cf19 := X16.out.cell 1 rfl
  have cf20 := X16.out.cell 3 rfl
  have cf21 := X16.out.fz 3
  have cl22 := X16.out.lt
  have H23 := Hid.mk (H14.out.set (k := K) (i := 3) (v := .slice (some ⟨w2.heap.size, 0, none⟩) 1 1) (by omega))
  have B24 := Hid.mk (B15.out.put (k := K) (i := 3) (by omega) (.slice (some ⟨w2.heap.size, 0, none⟩) 1 1))
  have X25 : Hid (Box (w2.setCell ⟨K, 3, none⟩ (.slice (some ⟨w2.heap.size, 0, none⟩) 1 1)) K [.int .i64 (at_ : Nat), .int .i64 9, vo, .slice (some ⟨w2.heap.size, 0, none⟩) 1 1, .slice none 0 0, .string ⟨#[]⟩, .string ⟨#[]⟩, .int .i64 0, .int .i64 0, .string ⟨#[]⟩, .string ⟨#[]⟩, .int .i64 0, .int .i64 0, .string ⟨#[]⟩, .int .i64 retry]) := Hid.mk (X16.out.set 3 (.slice (some ⟨w2.heap.size, 0, none⟩) 1 1))
  clear H14 B15 X16
  have H26 := Hid.mk (H23.out.below (below_box _ (.cells #[.string (ba a2)] 9)))
  have B27 := Hid.mk (B24.out.box (.cells #[.string (ba a2)] 9))
  have X28 := Hid.mk (X25.out.below (below_box _ (.cells #[.string (ba a2)] 9)))
  have O29 := Hid.mk (own_new1 (w2.setCell ⟨K, 3, none⟩ (.slice (some ⟨w2.heap.size, 0, none⟩) 1 1)) w.heap.size 9 (strV [a2]) 1 w2.heap.size rfl (B24.out.size) (size_set _ _ _).symm)
  have hsqB27 := B24.out.size
  simp only [size_set] at hsqB27
  clear H23 B24 X25 
  have he := E13.out
  rw [if_pos (by decide)] at he
  have E30 := Hid.mk he
  clear he E13
  go_wp2_with (go_at_call 55; fail)
  refine (must_any wWhere R ts2 _ H26.out (by decide)).mono ?_
  rintro e w3 ⟨⟨a3, ts3, v, hp, rfl, hv, hrd⟩ | ⟨er, hp, hthr⟩, hb3⟩
  rotate_left
  · obtain ⟨b', rfl, t0, t1, tB, tl⟩ := hthr
    have HP := Hid.mk (bind_err E30.out hp)
    clear hp
    go_wp2
    exact ⟨rfl, Or.inr ⟨_, HP.out, b', rfl, t0, t1, Nat.le_trans B27.out.size tB, tl⟩, B27.out.then hb3⟩
  subst hv
  have he := bind_ok E30.out hp
  dsimp only at he
  have E31 := Hid.mk he
  clear he hp
  have H32 := Hid.mk hrd
  have B33 := Hid.mk (B27.out.then hb3)
  have X34 := Hid.mk (X28.out.but hb3 (by omega))
  have q35 := X34.out.lt
  have O36 := Hid.mk (own_but O29.out hb3 (by omega))
  have sz37 := hb3.size
  try simp only [World.size_alloc, size_set] at sz37
  clear H26 B27 X28 O29 E30 hrd hb3
  go_wp2_with (go_at_call 56; fail)
  refine (rname_any R ts3 _ H32.out).mono ?_
  rintro e w4 ⟨⟨a4, ts4, v, hp, rfl, hv, hrd⟩ | ⟨er, hp, hthr⟩, hb4⟩
  rotate_left
  · obtain ⟨b', rfl, t0, t1, tB, tl⟩ := hthr
    have HP := Hid.mk (bind_err E31.out hp)
    clear hp
    go_wp2
    exact ⟨rfl, Or.inr ⟨_, HP.out, b', rfl, t0, t1, Nat.le_trans B33.out.size tB, tl⟩, B33.out.then hb4⟩
  unfold encS at hv
  subst hv
  have he := bind_ok E31.out hp
  dsimp only at he
  have E38 := Hid.mk he
  clear he hp
  have H39 := Hid.mk hrd
  have B40 := Hid.mk (B33.out.then hb4)
  have X41 := Hid.mk (X34.out.but hb4 (by omega))
  have q42 := X41.out.lt
  have O43 := Hid.mk (own_but O36.out hb4 (by omega))
  have sz44 := hb4.size
  try simp only [World.size_alloc, size_set] at sz44
  clear H32 B33 X34 O36 E31 hrd hb4
  have cf45 := X41.out.cell 6 rfl
  have cf46 := X41.out.fz 6
  have cl47 := X41.out.lt
  have H48 := Hid.mk (H39.out.set (k := K) (i := 6) (v := .string (ba a4)) (by omega))
  have B49 := Hid.mk (B40.out.put (k := K) (i := 6) (by omega) (.string (ba a4)))
  have X50 : Hid (Box (w4.setCell ⟨K, 6, none⟩ (.string (ba a4))) K [.int .i64 (at_ : Nat), .int .i64 9, vo, .slice (some ⟨w2.heap.size, 0, none⟩) 1 1, .slice none 0 0, .string ⟨#[]⟩, .string (ba a4), .int .i64 0, .int .i64 0, .string ⟨#[]⟩, .string ⟨#[]⟩, .int .i64 0, .int .i64 0, .string ⟨#[]⟩, .int .i64 retry]) := Hid.mk (X41.out.set 6 (.string (ba a4)))
  have O51 := Hid.mk (ownsRow_setCell_below O43.out (a := ⟨K, 6, none⟩) (by show K < _; omega) (.string (ba a4)))
  clear H39 B40 X41 O43
  have H52 := Hid.mk (H48.out.below (below_box _ (.cells #[.string ⟨#[61]⟩, .string ⟨#[60, 62]⟩, .string ⟨#[60]⟩, .string ⟨#[60, 61]⟩, .string ⟨#[62]⟩, .string ⟨#[62, 61]⟩] 9)))
  have B53 := Hid.mk (B49.out.box (.cells #[.string ⟨#[61]⟩, .string ⟨#[60, 62]⟩, .string ⟨#[60]⟩, .string ⟨#[60, 61]⟩, .string ⟨#[62]⟩, .string ⟨#[62, 61]⟩] 9))
  have X54 := Hid.mk (X50.out.below (below_box _ (.cells #[.string ⟨#[61]⟩, .string ⟨#[60, 62]⟩, .string ⟨#[60]⟩, .string ⟨#[60, 61]⟩, .string ⟨#[62]⟩, .string ⟨#[62, 61]⟩] 9)))
  have O55 := Hid.mk (O51.out.alloc (.cells #[.string ⟨#[61]⟩, .string ⟨#[60, 62]⟩, .string ⟨#[60]⟩, .string ⟨#[60, 61]⟩, .string ⟨#[62]⟩, .string ⟨#[62, 61]⟩] 9))
  clear H48 B49 X50 O51
  have TX56 : Hid (TextsAt ((w4.setCell ⟨K, 6, none⟩ (.string (ba a4))).alloc (.cells #[.string ⟨#[61]⟩, .string ⟨#[60, 62]⟩, .string ⟨#[60]⟩, .string ⟨#[60, 61]⟩, .string ⟨#[62]⟩, .string ⟨#[62, 61]⟩] 9)) (.slice (some ⟨w4.heap.size, 0, none⟩) 6 6) cmpL) := Hid.mk (texts_new (w4.setCell ⟨K, 6, none⟩ (.string (ba a4))) cmpL (by decide) (w4.heap.size) (by simp only [World.size_alloc, size_set]))
  go_wp2_with (go_at_call 80; fail)
  refine (roneOf_any (.slice (some ⟨w4.heap.size, 0, none⟩) 6 6) cmpL R ts4 ((w4.setCell ⟨K, 6, none⟩ (.string (ba a4))).alloc (.cells #[.string ⟨#[61]⟩, .string ⟨#[60, 62]⟩, .string ⟨#[60]⟩, .string ⟨#[60, 61]⟩, .string ⟨#[62]⟩, .string ⟨#[62, 61]⟩] 9)) H52.out TX56.out (by decide)).mono ?_
  rintro e w5 ⟨⟨a5, ts5, v, hp, rfl, hv, hrd⟩ | ⟨er, hp, hthr⟩, hb5⟩
  rotate_left
  · obtain ⟨b', rfl, t0, t1, tB, tl⟩ := hthr
    have HP := Hid.mk (bind_err E38.out hp)
    clear hp
    go_wp2
    exact ⟨rfl, Or.inr ⟨_, HP.out, b', rfl, t0, t1, Nat.le_trans B53.out.size tB, tl⟩, B53.out.then hb5⟩
  unfold encS at hv
  subst hv
  have he := bind_ok E38.out hp
  dsimp only at he
  have E57 := Hid.mk he
  clear he hp
  have H58 := Hid.mk hrd
  have B59 := Hid.mk (B53.out.then hb5)
  have X60 := Hid.mk (X54.out.but hb5 (by omega))
  have q61 := X60.out.lt
  have O62 := Hid.mk (own_but O55.out hb5 (by omega))
  have sz63 := hb5.size
  try simp only [World.size_alloc, size_set] at sz63
  clear H52 B53 X54 O55 E38 hrd hb5
  have cf64 := X60.out.cell 5 rfl
  have cf65 := X60.out.fz 5
  have cl66 := X60.out.lt
  have H67 := Hid.mk (H58.out.set (k := K) (i := 5) (v := .string (ba a5)) (by omega))
  have B68 := Hid.mk (B59.out.put (k := K) (i := 5) (by omega) (.string (ba a5)))
  have X69 : Hid (Box (w5.setCell ⟨K, 5, none⟩ (.string (ba a5))) K [.int .i64 (at_ : Nat), .int .i64 9, vo, .slice (some ⟨w2.heap.size, 0, none⟩) 1 1, .slice none 0 0, .string (ba a5), .string (ba a4), .int .i64 0, .int .i64 0, .string ⟨#[]⟩, .string ⟨#[]⟩, .int .i64 0, .int .i64 0, .string ⟨#[]⟩, .int .i64 retry]) := Hid.mk (X60.out.set 5 (.string (ba a5)))
  have O70 := Hid.mk (ownsRow_setCell_below O62.out (a := ⟨K, 5, none⟩) (by show K < _; omega) (.string (ba a5)))
  clear H58 B59 X60 O62
  go_wp2_with (go_at_call 81; fail)
  refine (rarg_any R ts5 _ H67.out).mono ?_
  rintro e w6 ⟨⟨a6, ts6, v, hp, rfl, hv, hrd⟩ | ⟨er, hp, hthr⟩, hb6⟩
  rotate_left
  · obtain ⟨b', rfl, t0, t1, tB, tl⟩ := hthr
    have HP := Hid.mk (bind_err E57.out hp)
    clear hp
    go_wp2
    exact ⟨rfl, Or.inr ⟨_, HP.out, b', rfl, t0, t1, Nat.le_trans B68.out.size tB, tl⟩, B68.out.then hb6⟩
  unfold encA at hv
  subst hv
  have he := bind_ok E57.out hp
  dsimp only at he
  have E71 := Hid.mk he
  clear he hp
  have H72 := Hid.mk hrd
  have B73 := Hid.mk (B68.out.then hb6)
  have X74 := Hid.mk (X69.out.but hb6 (by omega))
  have q75 := X74.out.lt
  have O76 := Hid.mk (own_but O70.out hb6 (by omega))
  have sz77 := hb6.size
  try simp only [World.size_alloc, size_set] at sz77
  clear H67 B68 X69 O70 E57 hrd hb6
  have cf78 := X74.out.cell 10 rfl
  have cf79 := X74.out.fz 10
  have cf80 := X74.out.cell 11 rfl
  have cf81 := X74.out.fz 11
  have cf82 := X74.out.cell 12 rfl
  have cf83 := X74.out.fz 12
  have cf84 := X74.out.cell 13 rfl
  have cf85 := X74.out.fz 13
  have cl86 := X74.out.lt
  have H87 := Hid.mk (H72.out.set (k := K) (i := 10) (v := .string (ba a6.1)) (by omega))
  have B88 := Hid.mk (B73.out.put (k := K) (i := 10) (by omega) (.string (ba a6.1)))
  have X89 : Hid (Box (w6.setCell ⟨K, 10, none⟩ (.string (ba a6.1))) K [.int .i64 (at_ : Nat), .int .i64 9, vo, .slice (some ⟨w2.heap.size, 0, none⟩) 1 1, .slice none 0 0, .string (ba a5), .string (ba a4), .int .i64 0, .int .i64 0, .string ⟨#[]⟩, .string (ba a6.1), .int .i64 0, .int .i64 0, .string ⟨#[]⟩, .int .i64 retry]) := Hid.mk (X74.out.set 10 (.string (ba a6.1)))
  have O90 := Hid.mk (ownsRow_setCell_below O76.out (a := ⟨K, 10, none⟩) (by show K < _; omega) (.string (ba a6.1)))
  clear H72 B73 X74 O76
  have H91 := Hid.mk (H87.out.set (k := K) (i := 11) (v := .int .i64 a6.2.1) (by omega))
  have B92 := Hid.mk (B88.out.put (k := K) (i := 11) (by omega) (.int .i64 a6.2.1))
  have X93 : Hid (Box ((w6.setCell ⟨K, 10, none⟩ (.string (ba a6.1))).setCell ⟨K, 11, none⟩ (.int .i64 a6.2.1)) K [.int .i64 (at_ : Nat), .int .i64 9, vo, .slice (some ⟨w2.heap.size, 0, none⟩) 1 1, .slice none 0 0, .string (ba a5), .string (ba a4), .int .i64 0, .int .i64 0, .string ⟨#[]⟩, .string (ba a6.1), .int .i64 a6.2.1, .int .i64 0, .string ⟨#[]⟩, .int .i64 retry]) := Hid.mk (X89.out.set 11 (.int .i64 a6.2.1))
  have O94 := Hid.mk (ownsRow_setCell_below O90.out (a := ⟨K, 11, none⟩) (by show K < _; omega) (.int .i64 a6.2.1))
  clear H87 B88 X89 O90
  have H95 := Hid.mk (H91.out.set (k := K) (i := 12) (v := .int .i64 a6.2.2.1) (by omega))
  have B96 := Hid.mk (B92.out.put (k := K) (i := 12) (by omega) (.int .i64 a6.2.2.1))
  have X97 : Hid (Box (((w6.setCell ⟨K, 10, none⟩ (.string (ba a6.1))).setCell ⟨K, 11, none⟩ (.int .i64 a6.2.1)).setCell ⟨K, 12, none⟩ (.int .i64 a6.2.2.1)) K [.int .i64 (at_ : Nat), .int .i64 9, vo, .slice (some ⟨w2.heap.size, 0, none⟩) 1 1, .slice none 0 0, .string (ba a5), .string (ba a4), .int .i64 0, .int .i64 0, .string ⟨#[]⟩, .string (ba a6.1), .int .i64 a6.2.1, .int .i64 a6.2.2.1, .string ⟨#[]⟩, .int .i64 retry]) := Hid.mk (X93.out.set 12 (.int .i64 a6.2.2.1))
  have O98 := Hid.mk (ownsRow_setCell_below O94.out (a := ⟨K, 12, none⟩) (by show K < _; omega) (.int .i64 a6.2.2.1))
  clear H91 B92 X93 O94
  have H99 := Hid.mk (H95.out.set (k := K) (i := 13) (v := .string (ba a6.2.2.2)) (by omega))
  have B100 := Hid.mk (B96.out.put (k := K) (i := 13) (by omega) (.string (ba a6.2.2.2)))
  have X101 : Hid (Box ((((w6.setCell ⟨K, 10, none⟩ (.string (ba a6.1))).setCell ⟨K, 11, none⟩ (.int .i64 a6.2.1)).setCell ⟨K, 12, none⟩ (.int .i64 a6.2.2.1)).setCell ⟨K, 13, none⟩ (.string (ba a6.2.2.2))) K [.int .i64 (at_ : Nat), .int .i64 9, vo, .slice (some ⟨w2.heap.size, 0, none⟩) 1 1, .slice none 0 0, .string (ba a5), .string (ba a4), .int .i64 0, .int .i64 0, .string ⟨#[]⟩, .string (ba a6.1), .int .i64 a6.2.1, .int .i64 a6.2.2.1, .string (ba a6.2.2.2), .int .i64 retry]) := Hid.mk (X97.out.set 13 (.string (ba a6.2.2.2)))
  have O102 := Hid.mk (ownsRow_setCell_below O98.out (a := ⟨K, 13, none⟩) (by show K < _; omega) (.string (ba a6.2.2.2)))
  clear H95 B96 X97 O98
  go_wp2
  go_end0
  exact ⟨Or.inl ⟨_, _, .slice (some ⟨w2.heap.size, 0, none⟩) 1 1, .slice none 0 0, E71.out, rfl, H99.out, X101.out, O102.out, World.ownsRow_nil _ _ _ _⟩, B100.out⟩
set_option maxRecDepth 100000 in
set_option maxHeartbeats 6400000 in
theorem rbody_c6 (at_ : Nat) (outs : List By) (retry : Int) (vo : Value) (K R : Nat) (ts : List Tk) (w : World) (h : RD w R ts) (hK : Box w K [.int .i64 (at_ : Nat), .int .i64 0, vo, .slice none 0 0, .slice none 0 0, .string ⟨#[]⟩, .string ⟨#[]⟩, .int .i64 0, .int .i64 0, .string ⟨#[]⟩, .string ⟨#[]⟩, .int .i64 0, .int .i64 0, .string ⟨#[]⟩, .int .i64 retry]) (hKR : R < K) (hcd : ∀ c t, codeP ts = .ok (c, t) → c = 6) :
    Calls Tryz.prog 61 #[.pointer (some ⟨R, 0, none⟩), .pointer (some ⟨K, 0, none⟩)] w fun e w' => BodyR (bodyP at_ outs retry ts) vo K e w.heap.size w' R ∧ But2 R K w w' := by
  obtain ⟨i0, hi, hz0, hz1, hz2⟩ := info_parts Tryz.infoStr
  have hR := h.lt
  have hKl := hK.lt
  have H0 := Hid.mk h
  have B0 := Hid.mk (But2.refl R K w)
  have X0 := Hid.mk hK
  have E0 := Hid.mk (bodyP.eq_1 at_ outs retry ts)
  clear h hK
  go_enter Tryz.func61, Tryz.ntmps61
  go_wp2_with (go_at_call 79; fail)
  refine (rcode_any R ts _ H0.out).mono ?_
  rintro e w1 ⟨⟨a1, ts1, v, hp, rfl, hv, hrd⟩ | ⟨er, hp, hthr⟩, hb1⟩
  rotate_left
  · obtain ⟨b', rfl, t0, t1, tB, tl⟩ := hthr
    have HP := Hid.mk (bind_err E0.out hp)
    clear hp
    go_wp2
    exact ⟨rfl, Or.inr ⟨_, HP.out, b', rfl, t0, t1, Nat.le_trans B0.out.size tB, tl⟩, B0.out.then hb1⟩
  unfold encI at hv
  subst hv
  have hcr := hcd _ _ hp
  subst hcr
  have he := bind_ok E0.out hp
  dsimp only at he
  have E1 := Hid.mk he
  clear he hp
  have H2 := Hid.mk hrd
  have B3 := Hid.mk (B0.out.then hb1)
  have X4 := Hid.mk (X0.out.but hb1 (by omega))
  have q5 := X4.out.lt
  have sz6 := hb1.size
  try simp only [World.size_alloc, size_set] at sz6
  clear H0 B0 X0 E0 hrd hb1
  clear hcd
  have cf7 := X4.out.cell 1 rfl
  have cf8 := X4.out.fz 1
  have cl9 := X4.out.lt
  have H10 := Hid.mk (H2.out.set (k := K) (i := 1) (v := .int .i64 6) (by omega))
  have B11 := Hid.mk (B3.out.put (k := K) (i := 1) (by omega) (.int .i64 6))
  have X12 : Hid (Box (w1.setCell ⟨K, 1, none⟩ (.int .i64 6)) K [.int .i64 (at_ : Nat), .int .i64 6, vo, .slice none 0 0, .slice none 0 0, .string ⟨#[]⟩, .string ⟨#[]⟩, .int .i64 0, .int .i64 0, .string ⟨#[]⟩, .string ⟨#[]⟩, .int .i64 0, .int .i64 0, .string ⟨#[]⟩, .int .i64 retry]) := Hid.mk (X4.out.set 1 (.int .i64 6))
  clear H2 B3 X4
  go_wp2_with (go_at_call 56; fail)
  refine (rname_any R ts1 _ H10.out).mono ?_
  rintro e w2 ⟨⟨a2, ts2, v, hp, rfl, hv, hrd⟩ | ⟨er, hp, hthr⟩, hb2⟩
  rotate_left
  · obtain ⟨b', rfl, t0, t1, tB, tl⟩ := hthr
    have HP := Hid.mk (bind_err E1.out hp)
    clear hp
    go_wp2
    exact ⟨rfl, Or.inr ⟨_, HP.out, b', rfl, t0, t1, Nat.le_trans B11.out.size tB, tl⟩, B11.out.then hb2⟩
  unfold encS at hv
  subst hv
  have he := bind_ok E1.out hp
  dsimp only at he
  have E13 := Hid.mk he
  clear he hp
  have H14 := Hid.mk hrd
  have B15 := Hid.mk (B11.out.then hb2)
  have X16 := Hid.mk (X12.out.but hb2 (by omega))
  have q17 := X16.out.lt
  have sz18 := hb2.size
  try simp only [World.size_alloc, size_set] at sz18
  clear H10 B11 X12 E1 hrd hb2
  have cf19 := X16.out.cell 1 rfl
  have cf20 := X16.out.cell 3 rfl
  have cf21 := X16.out.fz 3
  have cl22 := X16.out.lt
  have H23 := Hid.mk (H14.out.set (k := K) (i := 3) (v := .slice (some ⟨w2.heap.size, 0, none⟩) 1 1) (by omega))
  have B24 := Hid.mk (B15.out.put (k := K) (i := 3) (by omega) (.slice (some ⟨w2.heap.size, 0, none⟩) 1 1))
  have X25 : Hid (Box (w2.setCell ⟨K, 3, none⟩ (.slice (some ⟨w2.heap.size, 0, none⟩) 1 1)) K [.int .i64 (at_ : Nat), .int .i64 6, vo, .slice (some ⟨w2.heap.size, 0, none⟩) 1 1, .slice none 0 0, .string ⟨#[]⟩, .string ⟨#[]⟩, .int .i64 0, .int .i64 0, .string ⟨#[]⟩, .string ⟨#[]⟩, .int .i64 0, .int .i64 0, .string ⟨#[]⟩, .int .i64 retry]) := Hid.mk (X16.out.set 3 (.slice (some ⟨w2.heap.size, 0, none⟩) 1 1))
  clear H14 B15 X16
  have H26 := Hid.mk (H23.out.below (below_box _ (.cells #[.string (ba a2)] 9)))
  have B27 := Hid.mk (B24.out.box (.cells #[.string (ba a2)] 9))
  have X28 := Hid.mk (X25.out.below (below_box _ (.cells #[.string (ba a2)] 9)))
  have O29 := Hid.mk (own_new1 (w2.setCell ⟨K, 3, none⟩ (.slice (some ⟨w2.heap.size, 0, none⟩) 1 1)) w.heap.size 9 (strV [a2]) 1 w2.heap.size rfl (B24.out.size) (size_set _ _ _).symm)
  have hsqB27 := B24.out.size
  simp only [size_set] at hsqB27
  clear H23 B24 X25 
  have he := E13.out
  rw [if_neg (by decide), if_neg (by decide), if_neg (by decide), if_neg (by decide), if_neg (by decide), if_neg (by decide)] at he
  have E30 := Hid.mk he
  clear he E13
  go_wp2
  go_end0
  exact ⟨Or.inl ⟨_, _, .slice (some ⟨w2.heap.size, 0, none⟩) 1 1, .slice none 0 0, E30.out, rfl, H26.out, X28.out, O29.out, World.ownsRow_nil _ _ _ _⟩, B27.out⟩
end Go.Proofs.YtedflhiflomoeaaGreatDoor
