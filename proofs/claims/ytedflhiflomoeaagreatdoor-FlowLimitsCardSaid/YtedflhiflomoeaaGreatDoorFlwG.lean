import Derived.Test.YtedflhiflomoeaaGreatDoorFlwF
set_option linter.unusedSimpArgs false
set_option linter.unusedVariables false
namespace Go.Proofs.YtedflhiflomoeaaGreatDoor
open Go.RowKit

theorem bind_ok {ε α β : Type} {p : Except ε β} {r : Except ε α} {K : α → Except ε β} {x : α} (h : p = r.bind K) (hr : r = .ok x) : p = K x := by rw [h, hr]; rfl
theorem bind_err {ε α β : Type} {p : Except ε β} {r : Except ε α} {K : α → Except ε β} {x : ε} (h : p = r.bind K) (hr : r = .error x) : p = .error x := by rw [h, hr]; rfl
theorem size_set (w : World) (a : Addr) (v : Value) : (w.setCell a v).heap.size = w.heap.size := by simp [World.setCell]
def encN : Nat → Value → World → Prop := fun a v _ => v = .int .i64 (a : Nat)
def encO : FOut → Value → World → Prop := fun a v _ => v = .agg #[.int .i64 (a.at_ : Nat), .string (ba a.name), .string (ba a.from_)]
set_option maxRecDepth 100000 in
set_option maxHeartbeats 1600000 in
theorem rpublish_any (R : Nat) (ts : List Tk) (w : World) (h : RD w R ts) : Calls Tryz.prog 40 #[.pointer (some ⟨R, 0, none⟩)] w fun e w' => Rs (publishP ts) encO e w.heap.size w' R ∧ But R w w' := by
  have hR := h.lt
  have H0 := Hid.mk h
  have B0 := Hid.mk (But.refl R w)
  have E0 := Hid.mk (publishP.eq_1 ts)
  clear h
  go_enter Tryz.func40, Tryz.ntmps40
  have H1 := Hid.mk (H0.out.below (below_box _ (.cells #[.int .i64 0, .string ⟨#[]⟩, .string ⟨#[]⟩] 66)))
  have B2 := Hid.mk (B0.out.box (.cells #[.int .i64 0, .string ⟨#[]⟩, .string ⟨#[]⟩] 66))
  have X3 := Hid.mk (Box.new w [.int .i64 0, .string ⟨#[]⟩, .string ⟨#[]⟩] 66 _ rfl)
  clear H0 B0
  go_wp2_with (go_at_call 55; fail)
  refine (must_any wOut R ts _ H1.out (by decide)).mono ?_
  rintro e w1 ⟨⟨a1, ts1, v, hp, rfl, hv, hrd⟩ | ⟨er, hp, hthr⟩, hb1⟩
  rotate_left
  · obtain ⟨b', rfl, t0, t1, tB, tl⟩ := hthr
    have HP := Hid.mk (bind_err E0.out hp)
    clear hp
    go_wp2
    exact ⟨rfl, Or.inr ⟨_, HP.out, b', rfl, t0, t1, Nat.le_trans B2.out.size tB, tl⟩, B2.out.then hb1⟩
  subst hv
  have he := bind_ok E0.out hp
  dsimp only at he
  have E4 := Hid.mk he
  clear he hp
  have H5 := Hid.mk hrd
  have B6 := Hid.mk (B2.out.then hb1)
  have X7 := Hid.mk (X3.out.but hb1 (by omega))
  have q8 := X7.out.lt
  have sz9 := hb1.size
  try simp only [World.size_alloc, size_set] at sz9
  clear H1 B2 X3 E0 hrd hb1
  have H10 := Hid.mk (H5.out.below (below_box _ (.cells #[.int .i64 (a1 : Nat), .string ⟨#[]⟩, .string ⟨#[]⟩] 66)))
  have B11 := Hid.mk (B6.out.box (.cells #[.int .i64 (a1 : Nat), .string ⟨#[]⟩, .string ⟨#[]⟩] 66))
  have X12 := Hid.mk (X7.out.below (below_box _ (.cells #[.int .i64 (a1 : Nat), .string ⟨#[]⟩, .string ⟨#[]⟩] 66)))
  have X13 := Hid.mk (Box.new w1 [.int .i64 (a1 : Nat), .string ⟨#[]⟩, .string ⟨#[]⟩] 66 _ rfl)
  clear H5 B6 X7
  go_wp2_with (go_at_call 56; fail)
  refine (rname_any R ts1 _ H10.out).mono ?_
  rintro e w2 ⟨⟨a2, ts2, v, hp, rfl, hv, hrd⟩ | ⟨er, hp, hthr⟩, hb2⟩
  rotate_left
  · obtain ⟨b', rfl, t0, t1, tB, tl⟩ := hthr
    have HP := Hid.mk (bind_err E4.out hp)
    clear hp
    go_wp2
    exact ⟨rfl, Or.inr ⟨_, HP.out, b', rfl, t0, t1, Nat.le_trans B11.out.size tB, tl⟩, B11.out.then hb2⟩
  unfold encS at hv
  subst hv
  have he := bind_ok E4.out hp
  dsimp only at he
  have E14 := Hid.mk he
  clear he hp
  have H15 := Hid.mk hrd
  have B16 := Hid.mk (B11.out.then hb2)
  have X17 := Hid.mk (X12.out.but hb2 (by omega))
  have q18 := X17.out.lt
  have X19 := Hid.mk (X13.out.but hb2 (by omega))
  have q20 := X19.out.lt
  have sz21 := hb2.size
  try simp only [World.size_alloc, size_set] at sz21
  clear H10 B11 X12 X13 E4 hrd hb2
  have cf22 := X19.out.cell 1 rfl
  have cf23 := X19.out.fz 1
  have cl24 := X19.out.lt
  have H25 := Hid.mk (H15.out.set (k := w1.heap.size) (i := 1) (v := .string (ba a2)) (by omega))
  have B26 := Hid.mk (B16.out.put (k := w1.heap.size) (i := 1) (by omega) (.string (ba a2)))
  have X27 := Hid.mk (X17.out.other (k' := w1.heap.size) 1 (.string (ba a2)) (by omega))
  have X28 : Hid (Box (w2.setCell ⟨w1.heap.size, 1, none⟩ (.string (ba a2))) w1.heap.size [.int .i64 (a1 : Nat), .string (ba a2), .string ⟨#[]⟩]) := Hid.mk (X19.out.set 1 (.string (ba a2)))
  clear H15 B16 X17 X19
  go_wp2_with (go_at_call 55; fail)
  refine (must_any [61] R ts2 _ H25.out (by decide)).mono ?_
  rintro e w3 ⟨⟨a3, ts3, v, hp, rfl, hv, hrd⟩ | ⟨er, hp, hthr⟩, hb3⟩
  rotate_left
  · obtain ⟨b', rfl, t0, t1, tB, tl⟩ := hthr
    have HP := Hid.mk (bind_err E14.out hp)
    clear hp
    go_wp2
    exact ⟨rfl, Or.inr ⟨_, HP.out, b', rfl, t0, t1, Nat.le_trans B26.out.size tB, tl⟩, B26.out.then hb3⟩
  subst hv
  have he := bind_ok E14.out hp
  dsimp only at he
  have E29 := Hid.mk he
  clear he hp
  have H30 := Hid.mk hrd
  have B31 := Hid.mk (B26.out.then hb3)
  have X32 := Hid.mk (X27.out.but hb3 (by omega))
  have q33 := X32.out.lt
  have X34 := Hid.mk (X28.out.but hb3 (by omega))
  have q35 := X34.out.lt
  have sz36 := hb3.size
  try simp only [World.size_alloc, size_set] at sz36
  clear H25 B26 X27 X28 E14 hrd hb3
  go_wp2_with (go_at_call 56; fail)
  refine (rname_any R ts3 _ H30.out).mono ?_
  rintro e w4 ⟨⟨a4, ts4, v, hp, rfl, hv, hrd⟩ | ⟨er, hp, hthr⟩, hb4⟩
  rotate_left
  · obtain ⟨b', rfl, t0, t1, tB, tl⟩ := hthr
    have HP := Hid.mk (bind_err E29.out hp)
    clear hp
    go_wp2
    exact ⟨rfl, Or.inr ⟨_, HP.out, b', rfl, t0, t1, Nat.le_trans B31.out.size tB, tl⟩, B31.out.then hb4⟩
  unfold encS at hv
  subst hv
  have he := bind_ok E29.out hp
  dsimp only at he
  have E37 := Hid.mk he
  clear he hp
  have H38 := Hid.mk hrd
  have B39 := Hid.mk (B31.out.then hb4)
  have X40 := Hid.mk (X32.out.but hb4 (by omega))
  have q41 := X40.out.lt
  have X42 := Hid.mk (X34.out.but hb4 (by omega))
  have q43 := X42.out.lt
  have sz44 := hb4.size
  try simp only [World.size_alloc, size_set] at sz44
  clear H30 B31 X32 X34 E29 hrd hb4
  have cf45 := X42.out.cell 2 rfl
  have cf46 := X42.out.fz 2
  have cl47 := X42.out.lt
  have H48 := Hid.mk (H38.out.set (k := w1.heap.size) (i := 2) (v := .string (ba a4)) (by omega))
  have B49 := Hid.mk (B39.out.put (k := w1.heap.size) (i := 2) (by omega) (.string (ba a4)))
  have X50 := Hid.mk (X40.out.other (k' := w1.heap.size) 2 (.string (ba a4)) (by omega))
  have X51 : Hid (Box (w4.setCell ⟨w1.heap.size, 2, none⟩ (.string (ba a4))) w1.heap.size [.int .i64 (a1 : Nat), .string (ba a2), .string (ba a4)]) := Hid.mk (X42.out.set 2 (.string (ba a4)))
  clear H38 B39 X40 X42
  go_wp2_with (go_at_call 55; fail)
  refine (must_any [59] R ts4 _ H48.out (by decide)).mono ?_
  rintro e w5 ⟨⟨a5, ts5, v, hp, rfl, hv, hrd⟩ | ⟨er, hp, hthr⟩, hb5⟩
  rotate_left
  · obtain ⟨b', rfl, t0, t1, tB, tl⟩ := hthr
    have HP := Hid.mk (bind_err E37.out hp)
    clear hp
    go_wp2
    exact ⟨rfl, Or.inr ⟨_, HP.out, b', rfl, t0, t1, Nat.le_trans B49.out.size tB, tl⟩, B49.out.then hb5⟩
  subst hv
  have he := bind_ok E37.out hp
  dsimp only at he
  have E52 := Hid.mk he
  clear he hp
  have H53 := Hid.mk hrd
  have B54 := Hid.mk (B49.out.then hb5)
  have X55 := Hid.mk (X50.out.but hb5 (by omega))
  have q56 := X55.out.lt
  have X57 := Hid.mk (X51.out.but hb5 (by omega))
  have q58 := X57.out.lt
  have sz59 := hb5.size
  try simp only [World.size_alloc, size_set] at sz59
  clear H48 B49 X50 X51 E37 hrd hb5
  have cf60 := X57.out.cell 0 rfl
  have cf61 := X57.out.cell 1 rfl
  have cf62 := X57.out.cell 2 rfl
  have cl63 := X57.out.lt
  have x0 := X55.out.cell 0 rfl
  have y0 := X55.out.fz 0
  have x1 := X55.out.cell 1 rfl
  have y1 := X55.out.fz 1
  have x2 := X55.out.cell 2 rfl
  have y2 := X55.out.fz 2
  have hzX := X55.out.lt
  have HRD := Hid.mk (((H53.out.set (i := 0) (v := .int .i64 (a1 : Nat)) hR).set (i := 1) (v := .string (ba a2)) hR).set (i := 2) (v := .string (ba a4)) hR)
  have HBU := Hid.mk (((B54.out.put (Nat.le_refl _) (.int .i64 (a1 : Nat)) (i := 0)).put (Nat.le_refl _) (.string (ba a2)) (i := 1)).put (Nat.le_refl _) (.string (ba a4)) (i := 2))
  have HBX := Hid.mk (((X55.out.set 0 (.int .i64 (a1 : Nat))).set 1 (.string (ba a2))).set 2 (.string (ba a4)))
  have z0 := HBX.out.cell 0 rfl
  have z1 := HBX.out.cell 1 rfl
  have z2 := HBX.out.cell 2 rfl
  clear HBX
  go_wp2
  refine bodyPost_ret (v := .agg #[.int .i64 (a1 : Nat), .string (ba a2), .string (ba a4)]) (by simp [results, Tryz.results40, go_sem, z0, z1, z2]) rfl ?_
  exact ⟨Or.inl ⟨_, _, _, E52.out, rfl, rfl, HRD.out⟩, HBU.out⟩
end Go.Proofs.YtedflhiflomoeaaGreatDoor
