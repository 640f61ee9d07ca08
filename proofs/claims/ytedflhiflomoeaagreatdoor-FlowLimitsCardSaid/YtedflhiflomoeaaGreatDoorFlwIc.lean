import Derived.Test.YtedflhiflomoeaaGreatDoorFlwIa
set_option linter.unusedSimpArgs false
set_option linter.unusedVariables false
namespace Go.Proofs.YtedflhiflomoeaaGreatDoor
open Go.RowKit

set_option maxRecDepth 100000 in
set_option maxHeartbeats 6400000 in
theorem rbody_c5 (at_ : Nat) (outs : List By) (retry : Int) (vo : Value) (K R : Nat) (ts : List Tk) (w : World) (h : RD w R ts) (hK : Box w K [.int .i64 (at_ : Nat), .int .i64 0, vo, .slice none 0 0, .slice none 0 0, .string ⟨#[]⟩, .string ⟨#[]⟩, .int .i64 0, .int .i64 0, .string ⟨#[]⟩, .string ⟨#[]⟩, .int .i64 0, .int .i64 0, .string ⟨#[]⟩, .int .i64 retry]) (hKR : R < K) (hcd : ∀ c t, codeP ts = .ok (c, t) → c = 5) :
    Calls Tryz.prog 61 #[.pointer (some ⟨R, 0, none⟩), .pointer (some ⟨K, 0, none⟩)] w fun e w' => BodyR (bodyP at_ outs retry ts) vo K e w.heap.size w' R ∧ But2 R K w w' := by
  obtain ⟨i0, hi, hz0, hz1, hz2⟩ := info_parts Tryz.infoStr
  have hR := h.lt
  have hKl := hK.lt
  have H0 := Hid.mk h
  have B0 := Hid.mk (But2.refl R K w)
  have X0 := Hid.mk hK
  have E0 := Hid.mk (bodyP.eq_1 at_ outs retry ts)
  clear h hK
  go_enter Tryz.func61, Tryz.ntmps61
  go_wp2_with (go_at_call 79; fail)
  refine (rcode_any R ts _ H0.out).mono ?_
  rintro e w1 ⟨⟨a1, ts1, v, hp, rfl, hv, hrd⟩ | ⟨er, hp, hthr⟩, hb1⟩
  rotate_left
  · obtain ⟨b', rfl, t0, t1, tB, tl⟩ := hthr
    have HP := Hid.mk (bind_err E0.out hp)
    clear hp
    go_wp2
    exact ⟨rfl, Or.inr ⟨_, HP.out, b', rfl, t0, t1, Nat.le_trans B0.out.size tB, tl⟩, B0.out.then hb1⟩
  unfold encI at hv
  subst hv
  have hcr := hcd _ _ hp
  subst hcr
  have he := bind_ok E0.out hp
  dsimp only at he
  have E1 := Hid.mk he
  clear he hp
  have H2 := Hid.mk hrd
  have B3 := Hid.mk (B0.out.then hb1)
  have X4 := Hid.mk (X0.out.but hb1 (by omega))
  have q5 := X4.out.lt
  have sz6 := hb1.size
  try simp only [World.size_alloc, size_set] at sz6
  clear H0 B0 X0 E0 hrd hb1
  clear hcd
  have cf7 := X4.out.cell 1 rfl
  have cf8 := X4.out.fz 1
  have cl9 := X4.out.lt
  have H10 := Hid.mk (H2.out.set (k := K) (i := 1) (v := .int .i64 5) (by omega))
  have B11 := Hid.mk (B3.out.put (k := K) (i := 1) (by omega) (.int .i64 5))
  have X12 : Hid (Box (w1.setCell ⟨K, 1, none⟩ (.int .i64 5)) K [.int .i64 (at_ : Nat), .int .i64 5, vo, .slice none 0 0, .slice none 0 0, .string ⟨#[]⟩, .string ⟨#[]⟩, .int .i64 0, .int .i64 0, .string ⟨#[]⟩, .string ⟨#[]⟩, .int .i64 0, .int .i64 0, .string ⟨#[]⟩, .int .i64 retry]) := Hid.mk (X4.out.set 1 (.int .i64 5))
  clear H2 B3 X4
  go_wp2_with (go_at_call 56; fail)
  refine (rname_any R ts1 _ H10.out).mono ?_
  rintro e w2 ⟨⟨a2, ts2, v, hp, rfl, hv, hrd⟩ | ⟨er, hp, hthr⟩, hb2⟩
  rotate_left
  · obtain ⟨b', rfl, t0, t1, tB, tl⟩ := hthr
    have HP := Hid.mk (bind_err E1.out hp)
    clear hp
    go_wp2
    exact ⟨rfl, Or.inr ⟨_, HP.out, b', rfl, t0, t1, Nat.le_trans B11.out.size tB, tl⟩, B11.out.then hb2⟩
  unfold encS at hv
  subst hv
  have he := bind_ok E1.out hp
  dsimp only at he
  have E13 := Hid.mk he
  clear he hp
  have H14 := Hid.mk hrd
  have B15 := Hid.mk (B11.out.then hb2)
  have X16 := Hid.mk (X12.out.but hb2 (by omega))
  have q17 := X16.out.lt
  have sz18 := hb2.size
  try simp only [World.size_alloc, size_set] at sz18
  clear H10 B11 X12 E1 hrd hb2
  have cf19 := X16.out.cell 1 rfl
  have cf20 := X16.out.cell 3 rfl
  have cf21 := X16.out.fz 3
  have cl22 := X16.out.lt
  have H23 := Hid.mk (H14.out.set (k := K) (i := 3) (v := .slice (some ⟨w2.heap.size, 0, none⟩) 1 1) (by omega))
  have B24 := Hid.mk (B15.out.put (k := K) (i := 3) (by omega) (.slice (some ⟨w2.heap.size, 0, none⟩) 1 1))
  have X25 : Hid (Box (w2.setCell ⟨K, 3, none⟩ (.slice (some ⟨w2.heap.size, 0, none⟩) 1 1)) K [.int .i64 (at_ : Nat), .int .i64 5, vo, .slice (some ⟨w2.heap.size, 0, none⟩) 1 1, .slice none 0 0, .string ⟨#[]⟩, .string ⟨#[]⟩, .int .i64 0, .int .i64 0, .string ⟨#[]⟩, .string ⟨#[]⟩, .int .i64 0, .int .i64 0, .string ⟨#[]⟩, .int .i64 retry]) := Hid.mk (X16.out.set 3 (.slice (some ⟨w2.heap.size, 0, none⟩) 1 1))
  clear H14 B15 X16
  have H26 := Hid.mk (H23.out.below (below_box _ (.cells #[.string (ba a2)] 9)))
  have B27 := Hid.mk (B24.out.box (.cells #[.string (ba a2)] 9))
  have X28 := Hid.mk (X25.out.below (below_box _ (.cells #[.string (ba a2)] 9)))
  have O29 := Hid.mk (own_new1 (w2.setCell ⟨K, 3, none⟩ (.slice (some ⟨w2.heap.size, 0, none⟩) 1 1)) w.heap.size 9 (strV [a2]) 1 w2.heap.size rfl (B24.out.size) (size_set _ _ _).symm)
  have hsqB27 := B24.out.size
  simp only [size_set] at hsqB27
  clear H23 B24 X25 
  have he := E13.out
  rw [if_neg (by decide), if_neg (by decide), if_neg (by decide), if_pos (by decide)] at he
  have E30 := Hid.mk he
  clear he E13
  go_wp2_with (go_at_call 55; fail)
  refine (must_any [44] R ts2 _ H26.out (by decide)).mono ?_
  rintro e w3 ⟨⟨a3, ts3, v, hp, rfl, hv, hrd⟩ | ⟨er, hp, hthr⟩, hb3⟩
  rotate_left
  · obtain ⟨b', rfl, t0, t1, tB, tl⟩ := hthr
    have HP := Hid.mk (bind_err E30.out hp)
    clear hp
    go_wp2
    exact ⟨rfl, Or.inr ⟨_, HP.out, b', rfl, t0, t1, Nat.le_trans B27.out.size tB, tl⟩, B27.out.then hb3⟩
  subst hv
  have he := bind_ok E30.out hp
  dsimp only at he
  have E31 := Hid.mk he
  clear he hp
  have H32 := Hid.mk hrd
  have B33 := Hid.mk (B27.out.then hb3)
  have X34 := Hid.mk (X28.out.but hb3 (by omega))
  have q35 := X34.out.lt
  have O36 := Hid.mk (own_but O29.out hb3 (by omega))
  have sz37 := hb3.size
  try simp only [World.size_alloc, size_set] at sz37
  clear H26 B27 X28 O29 E30 hrd hb3
  have cf38 := X34.out.cell 3 rfl
  have cf39 := X34.out.fz 3
  have cl40 := X34.out.lt
  go_wp2_with fail
  cases hcp : nameP ts3 with
  | error er =>
    have HP := Hid.mk (bind_err E31.out hcp)
    have HC := Hid.mk (rname_any R ts3 _ H32.out.drew)
    rw [hcp] at HC
    refine wp_region_held_drew (S := fun V => V.cell? ⟨K, 3, none⟩ = some (.slice (some ⟨w2.heap.size, 0, none⟩) 1 1)) (by kernel_rfl) (X34.out.cell 3 rfl) (fun hHeld => ?_)
    refine wpAnyH_take (i := 0) (v := .pointer (some ⟨K, 0, none⟩)) rfl (by kernel_rfl) (by kernel_rfl) (by kernel_rfl) (fun _ _ _ h => h) (Or.inl ⟨by rfl, ?_⟩) (by assumption) ?_
    · intro V hV
      go_simp
    simp only [List.getElem_toArray, List.getElem_cons_zero, List.getElem_cons_succ, Act.put, List.setIfInBounds_toArray, List.set_cons_zero, List.set_cons_succ]
    refine wpAnyH_take (i := 1) (v := .pointer (some ⟨K, 0, none⟩)) rfl (by kernel_rfl) (by kernel_rfl) (by kernel_rfl) (fun _ _ _ h => h) (Or.inl ⟨by rfl, ?_⟩) (by assumption) ?_
    · intro V hV
      go_simp
    simp only [List.getElem_toArray, List.getElem_cons_zero, List.getElem_cons_succ, Act.put, List.setIfInBounds_toArray, List.set_cons_zero, List.set_cons_succ]
    refine wpAnyH_take (i := 2) (v := .pointer (some ⟨K, 0, none⟩)) rfl (by kernel_rfl) (by kernel_rfl) (by kernel_rfl) (fun _ _ _ h => h) (Or.inl ⟨by rfl, ?_⟩) (by assumption) ?_
    · intro V hV
      go_simp
    simp only [List.getElem_toArray, List.getElem_cons_zero, List.getElem_cons_succ, Act.put, List.setIfInBounds_toArray, List.set_cons_zero, List.set_cons_succ]
    refine wpAnyH_take (i := 3) (v := .pointer (some ⟨K, 3, none⟩)) rfl (by kernel_rfl) (by kernel_rfl) (by kernel_rfl) (fun _ _ _ h => h) (Or.inl ⟨by rfl, ?_⟩) (by assumption) ?_
    · intro V hV
      go_simp
    simp only [List.getElem_toArray, List.getElem_cons_zero, List.getElem_cons_succ, Act.put, List.setIfInBounds_toArray, List.set_cons_zero, List.set_cons_succ]
    refine wpAnyH_take (i := 4) (v := .slice (some ⟨w2.heap.size, 0, none⟩) 1 1) rfl (by kernel_rfl) (by kernel_rfl) (by kernel_rfl) (fun _ _ _ h => h) (Or.inl ⟨by rfl, ?_⟩) (by assumption) ?_
    · intro V hV
      go_simp
    simp only [List.getElem_toArray, List.getElem_cons_zero, List.getElem_cons_succ, Act.put, List.setIfInBounds_toArray, List.set_cons_zero, List.set_cons_succ]
    refine wpAnyH_take (i := 5) (v := .pointer (some ⟨R, 0, none⟩)) rfl (by kernel_rfl) (by kernel_rfl) (by kernel_rfl) (fun _ _ _ h => h) (Or.inl ⟨by rfl, ?_⟩) (by assumption) ?_
    · intro V hV
      go_simp
    simp only [List.getElem_toArray, List.getElem_cons_zero, List.getElem_cons_succ, Act.put, List.setIfInBounds_toArray, List.set_cons_zero, List.set_cons_succ]
    refine wpAnyH_ready (rs := [6]) (by kernel_rfl) (by simp) ?_
    refine AllReadyH.cons rfl (fun K hK => ?_) AllReadyH.nil
    go_simp
    refine HC.out.mono ?_
    rintro e wt ⟨hrs, hbt⟩
    obtain ⟨b', rfl, t0, t1, tB, tl⟩ := hrs.err
    go_wp2
    exact ⟨rfl, Or.inr ⟨_, HP.out, b', rfl, t0, t1, Nat.le_trans B33.out.size tB, tl⟩, B33.out.drew.then hbt⟩
  | ok z =>
    obtain ⟨a, tn⟩ := z
    have HC := Hid.mk (rname_any R ts3 _ H32.out.drew)
    rw [hcp] at HC
    have HCP := Hid.mk hcp
    clear hcp
    have EN := Hid.mk (bind_ok E31.out HCP.out)
    go_region_law (first | (go_simp; go_at_call 56; refine HC.out.mono ?_; rintro e wa4 ⟨hrs, hb4⟩; obtain ⟨ve, rfl, hve, hrd4⟩ := hrs.ok; unfold encS at hve; subst hve; have X4 := (X34.out.block (w' := w3.drew) rfl).but hb4 (by omega); have c4 := X4.cell 3 rfl; have l4 := X4.lt; have RD4 := Hid.mk hrd4; have BU4 := Hid.mk (B33.out.drew.then hb4); have sz4 := BU4.out.size; have OW4 := Hid.mk ((own_but (O36.out.drew) hb4 (by omega)).alloc (.cells #[.string (ba a)] 9)); have XB4 := Hid.mk X4; clear hrs hb4 hrd4 X4) | (refine step_append_lies _ (by rfl) _ _ _ (by rfl) (w.heap.size) 9 i0 _ 1 16 Tryz.underlying26 hi hz0 hz1 hz2 rfl (by omega) (.slice (some ⟨w2.heap.size, 0, none⟩) 1 1) (1) _ (by rfl) OW4.out ⟨wa4.heap.size, 0, none⟩ 1 1 [.string (ba a)] (by rfl) (by rfl) (news_blk wa4 [.string (ba a)] 9 _ rfl) (by simp [Value.oneCell']) (by omega) (by unfold maxLen; omega) (by omega) (by simp; omega) (wa4.heap.size + 1) (by simp) ?_; intro gg cap wb5 hown5 hgrow5 hat5 hlt5; have X5 := Hid.mk ((XB4.out.below (below_box wa4 (.cells #[.string (ba a)] 9))).grown hgrow5 (by intro e; have := OW4.out.lt _ e; omega)); have c5 := X5.out.cell 3 rfl; have f5 := X5.out.fz 3; have l5 := X5.out.lt; have HG5 := Hid.mk hgrow5; have HO5 := Hid.mk hown5; clear hat5; clear hgrow5 hown5))
    all_goals
      (go_wp2
       go_end0
       exact ⟨Or.inl ⟨_, _, _, .slice none 0 0, EN.out, rfl, (((RD4.out.below (below_box _ _)).grown HG5.out (fun q hq => by have := OW4.out.lt q hq; omega)).set (by omega)), (X5.out.set _ _), (ownsRow_setCell_below (HO5.out) (a := ⟨K, 3, none⟩) (by show K < _; omega) _), World.ownsRow_nil _ _ _ _⟩, (((BU4.out.box _).grown HG5.out (fun q hq => by have := OW4.out.lt q hq; omega)).put (by omega) _)⟩)
set_option maxRecDepth 100000 in
set_option maxHeartbeats 6400000 in
theorem rbody_c8 (at_ : Nat) (outs : List By) (retry : Int) (vo : Value) (K R : Nat) (ts : List Tk) (w : World) (h : RD w R ts) (hK : Box w K [.int .i64 (at_ : Nat), .int .i64 0, vo, .slice none 0 0, .slice none 0 0, .string ⟨#[]⟩, .string ⟨#[]⟩, .int .i64 0, .int .i64 0, .string ⟨#[]⟩, .string ⟨#[]⟩, .int .i64 0, .int .i64 0, .string ⟨#[]⟩, .int .i64 retry]) (hKR : R < K) (hcd : ∀ c t, codeP ts = .ok (c, t) → c = 8) :
    Calls Tryz.prog 61 #[.pointer (some ⟨R, 0, none⟩), .pointer (some ⟨K, 0, none⟩)] w fun e w' => BodyR (bodyP at_ outs retry ts) vo K e w.heap.size w' R ∧ But2 R K w w' := by
  obtain ⟨i0, hi, hz0, hz1, hz2⟩ := info_parts Tryz.infoStr
  have hR := h.lt
  have hKl := hK.lt
  have H0 := Hid.mk h
  have B0 := Hid.mk (But2.refl R K w)
  have X0 := Hid.mk hK
  have E0 := Hid.mk (bodyP.eq_1 at_ outs retry ts)
  clear h hK
  go_enter Tryz.func61, Tryz.ntmps61
  go_wp2_with (go_at_call 79; fail)
  refine (rcode_any R ts _ H0.out).mono ?_
  rintro e w1 ⟨⟨a1, ts1, v, hp, rfl, hv, hrd⟩ | ⟨er, hp, hthr⟩, hb1⟩
  rotate_left
  · obtain ⟨b', rfl, t0, t1, tB, tl⟩ := hthr
    have HP := Hid.mk (bind_err E0.out hp)
    clear hp
    go_wp2
    exact ⟨rfl, Or.inr ⟨_, HP.out, b', rfl, t0, t1, Nat.le_trans B0.out.size tB, tl⟩, B0.out.then hb1⟩
  unfold encI at hv
  subst hv
  have hcr := hcd _ _ hp
  subst hcr
  have he := bind_ok E0.out hp
  dsimp only at he
  have E1 := Hid.mk he
  clear he hp
  have H2 := Hid.mk hrd
  have B3 := Hid.mk (B0.out.then hb1)
  have X4 := Hid.mk (X0.out.but hb1 (by omega))
  have q5 := X4.out.lt
  have sz6 := hb1.size
  try simp only [World.size_alloc, size_set] at sz6
  clear H0 B0 X0 E0 hrd hb1
  clear hcd
  have cf7 := X4.out.cell 1 rfl
  have cf8 := X4.out.fz 1
  have cl9 := X4.out.lt
  have H10 := Hid.mk (H2.out.set (k := K) (i := 1) (v := .int .i64 8) (by omega))
  have B11 := Hid.mk (B3.out.put (k := K) (i := 1) (by omega) (.int .i64 8))
  have X12 : Hid (Box (w1.setCell ⟨K, 1, none⟩ (.int .i64 8)) K [.int .i64 (at_ : Nat), .int .i64 8, vo, .slice none 0 0, .slice none 0 0, .string ⟨#[]⟩, .string ⟨#[]⟩, .int .i64 0, .int .i64 0, .string ⟨#[]⟩, .string ⟨#[]⟩, .int .i64 0, .int .i64 0, .string ⟨#[]⟩, .int .i64 retry]) := Hid.mk (X4.out.set 1 (.int .i64 8))
  clear H2 B3 X4
  go_wp2_with (go_at_call 56; fail)
  refine (rname_any R ts1 _ H10.out).mono ?_
  rintro e w2 ⟨⟨a2, ts2, v, hp, rfl, hv, hrd⟩ | ⟨er, hp, hthr⟩, hb2⟩
  rotate_left
  · obtain ⟨b', rfl, t0, t1, tB, tl⟩ := hthr
    have HP := Hid.mk (bind_err E1.out hp)
    clear hp
    go_wp2
    exact ⟨rfl, Or.inr ⟨_, HP.out, b', rfl, t0, t1, Nat.le_trans B11.out.size tB, tl⟩, B11.out.then hb2⟩
  unfold encS at hv
  subst hv
  have he := bind_ok E1.out hp
  dsimp only at he
  have E13 := Hid.mk he
  clear he hp
  have H14 := Hid.mk hrd
  have B15 := Hid.mk (B11.out.then hb2)
  have X16 := Hid.mk (X12.out.but hb2 (by omega))
  have q17 := X16.out.lt
  have sz18 := hb2.size
  try simp only [World.size_alloc, size_set] at sz18
  clear H10 B11 X12 E1 hrd hb2
  have cf19 := X16.out.cell 1 rfl
  have cf20 := X16.out.cell 3 rfl
  have cf21 := X16.out.fz 3
  have cl22 := X16.out.lt
  have H23 := Hid.mk (H14.out.set (k := K) (i := 3) (v := .slice (some ⟨w2.heap.size, 0, none⟩) 1 1) (by omega))
  have B24 := Hid.mk (B15.out.put (k := K) (i := 3) (by omega) (.slice (some ⟨w2.heap.size, 0, none⟩) 1 1))
  have X25 : Hid (Box (w2.setCell ⟨K, 3, none⟩ (.slice (some ⟨w2.heap.size, 0, none⟩) 1 1)) K [.int .i64 (at_ : Nat), .int .i64 8, vo, .slice (some ⟨w2.heap.size, 0, none⟩) 1 1, .slice none 0 0, .string ⟨#[]⟩, .string ⟨#[]⟩, .int .i64 0, .int .i64 0, .string ⟨#[]⟩, .string ⟨#[]⟩, .int .i64 0, .int .i64 0, .string ⟨#[]⟩, .int .i64 retry]) := Hid.mk (X16.out.set 3 (.slice (some ⟨w2.heap.size, 0, none⟩) 1 1))
  clear H14 B15 X16
  have H26 := Hid.mk (H23.out.below (below_box _ (.cells #[.string (ba a2)] 9)))
  have B27 := Hid.mk (B24.out.box (.cells #[.string (ba a2)] 9))
  have X28 := Hid.mk (X25.out.below (below_box _ (.cells #[.string (ba a2)] 9)))
  have O29 := Hid.mk (own_new1 (w2.setCell ⟨K, 3, none⟩ (.slice (some ⟨w2.heap.size, 0, none⟩) 1 1)) w.heap.size 9 (strV [a2]) 1 w2.heap.size rfl (B24.out.size) (size_set _ _ _).symm)
  have hsqB27 := B24.out.size
  simp only [size_set] at hsqB27
  clear H23 B24 X25 
  have he := E13.out
  rw [if_neg (by decide), if_neg (by decide), if_neg (by decide), if_neg (by decide), if_neg (by decide), if_pos (by decide)] at he
  have E30 := Hid.mk he
  clear he E13
  go_wp2_with (go_at_call 55; fail)
  refine (must_any wBy R ts2 _ H26.out (by decide)).mono ?_
  rintro e w3 ⟨⟨a3, ts3, v, hp, rfl, hv, hrd⟩ | ⟨er, hp, hthr⟩, hb3⟩
  rotate_left
  · obtain ⟨b', rfl, t0, t1, tB, tl⟩ := hthr
    have HP := Hid.mk (bind_err E30.out hp)
    clear hp
    go_wp2
    exact ⟨rfl, Or.inr ⟨_, HP.out, b', rfl, t0, t1, Nat.le_trans B27.out.size tB, tl⟩, B27.out.then hb3⟩
  subst hv
  have he := bind_ok E30.out hp
  dsimp only at he
  have E31 := Hid.mk he
  clear he hp
  have H32 := Hid.mk hrd
  have B33 := Hid.mk (B27.out.then hb3)
  have X34 := Hid.mk (X28.out.but hb3 (by omega))
  have q35 := X34.out.lt
  have O36 := Hid.mk (own_but O29.out hb3 (by omega))
  have sz37 := hb3.size
  try simp only [World.size_alloc, size_set] at sz37
  clear H26 B27 X28 O29 E30 hrd hb3
  go_wp2_with (go_at_call 56; fail)
  refine (rname_any R ts3 _ H32.out).mono ?_
  rintro e w4 ⟨⟨a4, ts4, v, hp, rfl, hv, hrd⟩ | ⟨er, hp, hthr⟩, hb4⟩
  rotate_left
  · obtain ⟨b', rfl, t0, t1, tB, tl⟩ := hthr
    have HP := Hid.mk (bind_err E31.out hp)
    clear hp
    go_wp2
    exact ⟨rfl, Or.inr ⟨_, HP.out, b', rfl, t0, t1, Nat.le_trans B33.out.size tB, tl⟩, B33.out.then hb4⟩
  unfold encS at hv
  subst hv
  have he := bind_ok E31.out hp
  dsimp only at he
  have E38 := Hid.mk he
  clear he hp
  have H39 := Hid.mk hrd
  have B40 := Hid.mk (B33.out.then hb4)
  have X41 := Hid.mk (X34.out.but hb4 (by omega))
  have q42 := X41.out.lt
  have O43 := Hid.mk (own_but O36.out hb4 (by omega))
  have sz44 := hb4.size
  try simp only [World.size_alloc, size_set] at sz44
  clear H32 B33 X34 O36 E31 hrd hb4
  have cf45 := X41.out.cell 1 rfl
  have cf46 := X41.out.cell 4 rfl
  have cf47 := X41.out.fz 4
  have cl48 := X41.out.lt
  have H49 := Hid.mk (H39.out.set (k := K) (i := 4) (v := .slice (some ⟨w4.heap.size, 0, none⟩) 1 1) (by omega))
  have B50 := Hid.mk (B40.out.put (k := K) (i := 4) (by omega) (.slice (some ⟨w4.heap.size, 0, none⟩) 1 1))
  have X51 : Hid (Box (w4.setCell ⟨K, 4, none⟩ (.slice (some ⟨w4.heap.size, 0, none⟩) 1 1)) K [.int .i64 (at_ : Nat), .int .i64 8, vo, .slice (some ⟨w2.heap.size, 0, none⟩) 1 1, .slice (some ⟨w4.heap.size, 0, none⟩) 1 1, .string ⟨#[]⟩, .string ⟨#[]⟩, .int .i64 0, .int .i64 0, .string ⟨#[]⟩, .string ⟨#[]⟩, .int .i64 0, .int .i64 0, .string ⟨#[]⟩, .int .i64 retry]) := Hid.mk (X41.out.set 4 (.slice (some ⟨w4.heap.size, 0, none⟩) 1 1))
  have O52 := Hid.mk (ownsRow_setCell_below O43.out (a := ⟨K, 4, none⟩) (by show K < _; omega) (.slice (some ⟨w4.heap.size, 0, none⟩) 1 1))
  clear H39 B40 X41 O43
  have H53 := Hid.mk (H49.out.below (below_box _ (.cells #[.string (ba a4)] 9)))
  have B54 := Hid.mk (B50.out.box (.cells #[.string (ba a4)] 9))
  have X55 := Hid.mk (X51.out.below (below_box _ (.cells #[.string (ba a4)] 9)))
  have O56 := Hid.mk (own_new1 (w4.setCell ⟨K, 4, none⟩ (.slice (some ⟨w4.heap.size, 0, none⟩) 1 1)) w.heap.size 9 (strV [a4]) 1 w4.heap.size rfl (B50.out.size) (size_set _ _ _).symm)
  have O57 := Hid.mk (O52.out.alloc (.cells #[.string (ba a4)] 9))
  have hsqB54 := B50.out.size
  simp only [size_set] at hsqB54
  clear H49 B50 X51 O52
  have H58 := Hid.mk (H53.out.below (below_box _ (.cells #[.string ⟨#[115, 117, 109]⟩, .string ⟨#[109, 97, 120]⟩] 9)))
  have B59 := Hid.mk (B54.out.box (.cells #[.string ⟨#[115, 117, 109]⟩, .string ⟨#[109, 97, 120]⟩] 9))
  have X60 := Hid.mk (X55.out.below (below_box _ (.cells #[.string ⟨#[115, 117, 109]⟩, .string ⟨#[109, 97, 120]⟩] 9)))
  have O61 := Hid.mk (O57.out.alloc (.cells #[.string ⟨#[115, 117, 109]⟩, .string ⟨#[109, 97, 120]⟩] 9))
  have O62 := Hid.mk (O56.out.alloc (.cells #[.string ⟨#[115, 117, 109]⟩, .string ⟨#[109, 97, 120]⟩] 9))
  clear H53 B54 X55 O57 O56
  have TX63 : Hid (TextsAt (((w4.setCell ⟨K, 4, none⟩ (.slice (some ⟨w4.heap.size, 0, none⟩) 1 1)).alloc (.cells #[.string (ba a4)] 9)).alloc (.cells #[.string ⟨#[115, 117, 109]⟩, .string ⟨#[109, 97, 120]⟩] 9)) (.slice (some ⟨w4.heap.size + 1, 0, none⟩) 2 2) [wSum, wMax]) := Hid.mk (texts_new ((w4.setCell ⟨K, 4, none⟩ (.slice (some ⟨w4.heap.size, 0, none⟩) 1 1)).alloc (.cells #[.string (ba a4)] 9)) [wSum, wMax] (by decide) (w4.heap.size + 1) (by simp only [World.size_alloc, size_set]))
  go_wp2_with (go_at_call 80; fail)
  refine (roneOf_any (.slice (some ⟨w4.heap.size + 1, 0, none⟩) 2 2) [wSum, wMax] R ts4 (((w4.setCell ⟨K, 4, none⟩ (.slice (some ⟨w4.heap.size, 0, none⟩) 1 1)).alloc (.cells #[.string (ba a4)] 9)).alloc (.cells #[.string ⟨#[115, 117, 109]⟩, .string ⟨#[109, 97, 120]⟩] 9)) H58.out TX63.out (by decide)).mono ?_
  rintro e w5 ⟨⟨a5, ts5, v, hp, rfl, hv, hrd⟩ | ⟨er, hp, hthr⟩, hb5⟩
  rotate_left
  · obtain ⟨b', rfl, t0, t1, tB, tl⟩ := hthr
    have HP := Hid.mk (bind_err E38.out hp)
    clear hp
    go_wp2
    exact ⟨rfl, Or.inr ⟨_, HP.out, b', rfl, t0, t1, Nat.le_trans B59.out.size tB, tl⟩, B59.out.then hb5⟩
  unfold encS at hv
  subst hv
  have he := bind_ok E38.out hp
  dsimp only at he
  have E64 := Hid.mk he
  clear he hp
  have H65 := Hid.mk hrd
  have B66 := Hid.mk (B59.out.then hb5)
  have X67 := Hid.mk (X60.out.but hb5 (by omega))
  have q68 := X67.out.lt
  have O69 := Hid.mk (own_but O61.out hb5 (by omega))
  have O70 := Hid.mk (own_but O62.out hb5 (by omega))
  have sz71 := hb5.size
  try simp only [World.size_alloc, size_set] at sz71
  clear H58 B59 X60 O61 O62 E38 hrd hb5
  have cf72 := X67.out.cell 5 rfl
  have cf73 := X67.out.fz 5
  have cl74 := X67.out.lt
  have H75 := Hid.mk (H65.out.set (k := K) (i := 5) (v := .string (ba a5)) (by omega))
  have B76 := Hid.mk (B66.out.put (k := K) (i := 5) (by omega) (.string (ba a5)))
  have X77 : Hid (Box (w5.setCell ⟨K, 5, none⟩ (.string (ba a5))) K [.int .i64 (at_ : Nat), .int .i64 8, vo, .slice (some ⟨w2.heap.size, 0, none⟩) 1 1, .slice (some ⟨w4.heap.size, 0, none⟩) 1 1, .string (ba a5), .string ⟨#[]⟩, .int .i64 0, .int .i64 0, .string ⟨#[]⟩, .string ⟨#[]⟩, .int .i64 0, .int .i64 0, .string ⟨#[]⟩, .int .i64 retry]) := Hid.mk (X67.out.set 5 (.string (ba a5)))
  have O78 := Hid.mk (ownsRow_setCell_below O69.out (a := ⟨K, 5, none⟩) (by show K < _; omega) (.string (ba a5)))
  have O79 := Hid.mk (ownsRow_setCell_below O70.out (a := ⟨K, 5, none⟩) (by show K < _; omega) (.string (ba a5)))
  clear H65 B66 X67 O69 O70
  have cf80 := X77.out.cell 4 rfl
  have cf81 := X77.out.fz 4
  have cl82 := X77.out.lt
  go_wp2_with fail
  cases hcp : nameP ts5 with
  | error er =>
    have HP := Hid.mk (bind_err E64.out hcp)
    have HC := Hid.mk (rname_any R ts5 _ H75.out.drew)
    rw [hcp] at HC
    refine wp_region_held_drew (S := fun V => V.cell? ⟨K, 4, none⟩ = some (.slice (some ⟨w4.heap.size, 0, none⟩) 1 1)) (by kernel_rfl) (X77.out.cell 4 rfl) (fun hHeld => ?_)
    refine wpAnyH_take (i := 0) (v := .pointer (some ⟨K, 0, none⟩)) rfl (by kernel_rfl) (by kernel_rfl) (by kernel_rfl) (fun _ _ _ h => h) (Or.inl ⟨by rfl, ?_⟩) (by assumption) ?_
    · intro V hV
      go_simp
    simp only [List.getElem_toArray, List.getElem_cons_zero, List.getElem_cons_succ, Act.put, List.setIfInBounds_toArray, List.set_cons_zero, List.set_cons_succ]
    refine wpAnyH_take (i := 1) (v := .pointer (some ⟨K, 0, none⟩)) rfl (by kernel_rfl) (by kernel_rfl) (by kernel_rfl) (fun _ _ _ h => h) (Or.inl ⟨by rfl, ?_⟩) (by assumption) ?_
    · intro V hV
      go_simp
    simp only [List.getElem_toArray, List.getElem_cons_zero, List.getElem_cons_succ, Act.put, List.setIfInBounds_toArray, List.set_cons_zero, List.set_cons_succ]
    refine wpAnyH_take (i := 2) (v := .pointer (some ⟨K, 0, none⟩)) rfl (by kernel_rfl) (by kernel_rfl) (by kernel_rfl) (fun _ _ _ h => h) (Or.inl ⟨by rfl, ?_⟩) (by assumption) ?_
    · intro V hV
      go_simp
    simp only [List.getElem_toArray, List.getElem_cons_zero, List.getElem_cons_succ, Act.put, List.setIfInBounds_toArray, List.set_cons_zero, List.set_cons_succ]
    refine wpAnyH_take (i := 3) (v := .pointer (some ⟨K, 4, none⟩)) rfl (by kernel_rfl) (by kernel_rfl) (by kernel_rfl) (fun _ _ _ h => h) (Or.inl ⟨by rfl, ?_⟩) (by assumption) ?_
    · intro V hV
      go_simp
    simp only [List.getElem_toArray, List.getElem_cons_zero, List.getElem_cons_succ, Act.put, List.setIfInBounds_toArray, List.set_cons_zero, List.set_cons_succ]
    refine wpAnyH_take (i := 4) (v := .slice (some ⟨w4.heap.size, 0, none⟩) 1 1) rfl (by kernel_rfl) (by kernel_rfl) (by kernel_rfl) (fun _ _ _ h => h) (Or.inl ⟨by rfl, ?_⟩) (by assumption) ?_
    · intro V hV
      go_simp
    simp only [List.getElem_toArray, List.getElem_cons_zero, List.getElem_cons_succ, Act.put, List.setIfInBounds_toArray, List.set_cons_zero, List.set_cons_succ]
    refine wpAnyH_take (i := 5) (v := .pointer (some ⟨R, 0, none⟩)) rfl (by kernel_rfl) (by kernel_rfl) (by kernel_rfl) (fun _ _ _ h => h) (Or.inl ⟨by rfl, ?_⟩) (by assumption) ?_
    · intro V hV
      go_simp
    simp only [List.getElem_toArray, List.getElem_cons_zero, List.getElem_cons_succ, Act.put, List.setIfInBounds_toArray, List.set_cons_zero, List.set_cons_succ]
    refine wpAnyH_ready (rs := [6]) (by kernel_rfl) (by simp) ?_
    refine AllReadyH.cons rfl (fun K hK => ?_) AllReadyH.nil
    go_simp
    refine HC.out.mono ?_
    rintro e wt ⟨hrs, hbt⟩
    obtain ⟨b', rfl, t0, t1, tB, tl⟩ := hrs.err
    go_wp2
    exact ⟨rfl, Or.inr ⟨_, HP.out, b', rfl, t0, t1, Nat.le_trans B76.out.size tB, tl⟩, B76.out.drew.then hbt⟩
  | ok z =>
    obtain ⟨a, tn⟩ := z
    have HC := Hid.mk (rname_any R ts5 _ H75.out.drew)
    rw [hcp] at HC
    have HCP := Hid.mk hcp
    clear hcp
    have EN := Hid.mk (bind_ok E64.out HCP.out)
    go_region_law (first | (go_simp; go_at_call 56; refine HC.out.mono ?_; rintro e wa4 ⟨hrs, hb4⟩; obtain ⟨ve, rfl, hve, hrd4⟩ := hrs.ok; unfold encS at hve; subst hve; have X4 := (X77.out.block (w' := (w5.setCell ⟨K, 5, none⟩ (.string (ba a5))).drew) rfl).but hb4 (by omega); have c4 := X4.cell 4 rfl; have l4 := X4.lt; have RD4 := Hid.mk hrd4; have BU4 := Hid.mk (B76.out.drew.then hb4); have sz4 := BU4.out.size; have OW4 := Hid.mk ((own_but (O79.out.drew) hb4 (by omega)).alloc (.cells #[.string (ba a)] 9)); have XB4 := Hid.mk X4; have OR4 := Hid.mk ((own_but (O78.out.drew) hb4 (by omega)).alloc (.cells #[.string (ba a)] 9)); clear hrs hb4 hrd4 X4) | (refine step_append_lies _ (by rfl) _ _ _ (by rfl) (w.heap.size) 9 i0 _ 1 16 Tryz.underlying26 hi hz0 hz1 hz2 rfl (by omega) (.slice (some ⟨w4.heap.size, 0, none⟩) 1 1) (1) _ (by rfl) OW4.out ⟨wa4.heap.size, 0, none⟩ 1 1 [.string (ba a)] (by rfl) (by rfl) (news_blk wa4 [.string (ba a)] 9 _ rfl) (by simp [Value.oneCell']) (by omega) (by unfold maxLen; omega) (by omega) (by simp; omega) (wa4.heap.size + 1) (by simp) ?_; intro gg cap wb5 hown5 hgrow5 hat5 hlt5; have X5 := Hid.mk ((XB4.out.below (below_box wa4 (.cells #[.string (ba a)] 9))).grown hgrow5 (by intro e; have := OW4.out.lt _ e; omega)); have c5 := X5.out.cell 4 rfl; have f5 := X5.out.fz 4; have l5 := X5.out.lt; have HG5 := Hid.mk hgrow5; have HO5 := Hid.mk hown5; have HAT5 := Hid.mk hat5; have OR5 := Hid.mk (OR4.out.kept hgrow5 (Or.inr (by intro e; simp [Value.ownBlock] at e; omega))); clear hat5; clear hgrow5 hown5))
    all_goals
      (go_wp2
       go_end0
       exact ⟨Or.inl ⟨_, _, .slice (some ⟨w2.heap.size, 0, none⟩) 1 1, _, EN.out, rfl, (((RD4.out.below (below_box _ _)).grown HG5.out (fun q hq => by have := OW4.out.lt q hq; omega)).set (by omega)), (X5.out.set _ _), (ownsRow_setCell_below OR5.out (a := ⟨K, 4, none⟩) (by show K < _; omega) _), (ownsRow_setCell_below (HO5.out) (a := ⟨K, 4, none⟩) (by show K < _; omega) _)⟩, (((BU4.out.box _).grown HG5.out (fun q hq => by have := OW4.out.lt q hq; omega)).put (by omega) _)⟩)
end Go.Proofs.YtedflhiflomoeaaGreatDoor
