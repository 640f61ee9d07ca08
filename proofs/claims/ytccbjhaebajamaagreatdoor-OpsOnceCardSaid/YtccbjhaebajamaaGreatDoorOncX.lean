import Derived.Test.YtccbjhaebajamaaGreatDoorOncW
set_option linter.unusedSimpArgs false
set_option linter.unusedVariables false
namespace Go.Proofs.YtccbjhaebajamaaGreatDoor
open Go.RowKit

set_option maxRecDepth 100000 in
set_option maxHeartbeats 6400000 in
theorem once_ok (vc vr : Value) (cs : List Cl) (rs : List (List Vl)) (w : World) (hc : ColsIs w vc cs) (hr : RowsIs w vr rs) (hE : Env w) (hRR : rightB cs rs = true) :
    Calls Tryz.prog 3 #[.agg #[vc, vr]] w fun e w' => e = .returned (.bool true) ∧ Below w.heap.size w w' := by
  have HS1 := Hid.mk (fun W (hW : Below w.heap.size w W) => small_any vc vr cs rs W (hc.below hW) (hr.below hW))
  have HDN := Hid.mk (fun W (hW : Below w.heap.size w W) => done_any W (hE.below hW))
  have HRT := Hid.mk (fun W (hW : Below w.heap.size w W) => right_any vc vr cs rs W (hc.below hW) (hr.below hW))
  have hD' := fun (xc xr : Value) (ds : List Cl) (qs : List (List Vl)) (W : World) (H : Nat) (hW : Below w.heap.size w W) (hH : W.heap.size = H) (h1 : ColsIs W xc ds) (h2 : RowsIs W xr qs) => one_dist jDist xc xr ds qs W H hH h1 h2 rfl (hE.below hW)
  have hP' := fun (cv xc xr : Value) (ds : List Cl) (qs : List (List Vl)) (ss : List ByteArray) (W : World) (H : Nat) (hH : W.heap.size = H) (h1 : ColsIs W xc ds) (h2 : RowsIs W xr qs) (h3 : StrsC W cv ss) => one_proj (jPick cv) ss xc xr ds qs W H hH h1 h2 rfl h3
  have HU := Hid.mk one_uni
  have HCR := Hid.mk (And.intro hc hr)
  have HRR := Hid.mk hRR
  clear hRR
  obtain ⟨va, vcp, rfl, -⟩ := hc
  obtain ⟨ra, rcp, rfl, -⟩ := hr
  unfold jU Jb.cells at HU
  have HD : Hid (∀ (xc xr : Value) (ds : List Cl) (qs : List (List Vl)) (W : World) (H : Nat), Below w.heap.size w W → W.heap.size = H → ColsIs W xc ds → RowsIs W xr qs → Calls Tryz.prog 9 #[.agg #[.int .i64 0, .int .i64 6, .slice none 0 0, .slice none 0 0, .slice none 0 0, .string ⟨#[]⟩, .string ⟨#[]⟩, .int .i64 0, .int .i64 0, .string ⟨#[]⟩, .string ⟨#[]⟩, .int .i64 0, .int .i64 0, .string ⟨#[]⟩, .int .i64 0], .slice (some ⟨H, 0, none⟩) 1 1] (W.alloc (.cells #[xc, xr] 25)) fun e w' => OneRes e w' W.heap.size (distNo (ds, qs) = 0) (ds, (distF qs).2) ∧ Below (W.alloc (.cells #[xc, xr] 25)).heap.size (W.alloc (.cells #[xc, xr] 25)) w') := Hid.mk hD'
  have HPJ : Hid (∀ (cv xc xr : Value) (ds : List Cl) (qs : List (List Vl)) (ss : List ByteArray) (W : World) (H : Nat), W.heap.size = H → ColsIs W xc ds → RowsIs W xr qs → StrsC W cv ss → Calls Tryz.prog 9 #[.agg #[.int .i64 0, .int .i64 3, .slice none 0 0, .slice none 0 0, cv, .string ⟨#[]⟩, .string ⟨#[]⟩, .int .i64 0, .int .i64 0, .string ⟨#[]⟩, .string ⟨#[]⟩, .int .i64 0, .int .i64 0, .string ⟨#[]⟩, .int .i64 0], .slice (some ⟨H, 0, none⟩) 1 1] (W.alloc (.cells #[xc, xr] 25)) fun e w' => OneRes e w' W.heap.size (projNo (ds, qs) ss = 0) (pickC (placesN ds ss) ds, qs.map (pickV (placesN ds ss))) ∧ Below (W.alloc (.cells #[xc, xr] 25)).heap.size (W.alloc (.cells #[xc, xr] 25)) w') := Hid.mk hP'
  clear hD' hP'
  obtain ⟨DRV, hDRV⟩ : ∃ z, (distF rs).2 = z := ⟨_, rfl⟩
  obtain ⟨URV, hURV⟩ : ∃ z, rs ++ rs = z := ⟨_, rfl⟩
  have HDRV := Hid.mk hDRV
  have HURV := Hid.mk hURV
  clear hDRV hURV hE
  go_enter Tryz.func3, Tryz.ntmps3
  go_wp2_with fail
  refine (HS1.out _ (below_box _ _)).mono ?_
  rintro e w1 ⟨rfl, hb1⟩
  have hs1 : Sto w w1 (.slice va cs.length vcp) (.slice ra rs.length rcp) := ⟨(hb1.cell (p := ⟨w.heap.size, 0, none⟩) (by simp)).trans (by rw [World.cell?_alloc_at _ _ _ _ rfl]; rfl), (hb1.cell (p := ⟨w.heap.size, 1, none⟩) (by simp)).trans (by rw [World.cell?_alloc_at _ _ _ _ rfl]; rfl), by have := hb1.size; simp at this; omega, bel_then (below_box _ _) hb1⟩
  have ST1 := Hid.mk hs1
  clear hb1 hs1
  generalize smallB cs rs = g1 at *
  cases g1
  · go_wp2
    go_ret
    exact ⟨rfl, ST1.out.2.2.2⟩
  · go_wp2_with (go_at_call 8; fail)
    refine (HDN.out _ ST1.out.2.2.2).mono ?_
    rintro e w4 ⟨rfl, hb4⟩
    have ST4 := Hid.mk (ST1.out.below hb4)
    have k0 := ST4.out.1
    have k1 := ST4.out.2.1
    clear hb4 HDN HS1 ST1
    go_wp2_with (go_at_call 9; fail)
    clear k0 k1
    refine (HD.out _ _ cs rs w4 _ ST4.out.2.2.2 rfl (HCR.out.1.below ST4.out.2.2.2) (HCR.out.2.below ST4.out.2.2.2)).mono ?_
    rintro e w5 ⟨hres, HB⟩
    have HAP := Hid.mk (all_picked HRR.out)
    have HDR := Hid.mk (show rightB cs DRV = true by rw [← HDRV.out]; exact dist_right HRR.out)
    have HDD := Hid.mk (show (distF DRV).2 = DRV by rw [← HDRV.out]; exact dist_again rs)
    have HLN := Hid.mk (right_len HRR.out)
    have hxo : ∀ o, Below w4.heap.size w4 (w5.alloc o) := fun o => bel_box (bel_then (below_box _ _) HB) o
    obtain ⟨-, x5, y5, rfl, hcn, hrn⟩ := hres.resolve_right (fun h => h.1 (dist_0.2 HRR.out))
    rw [HDRV.out] at hrn
    dsimp only at hrn hcn
    obtain ⟨x5a, x5c, rfl⟩ := own_slice hcn.1
    obtain ⟨y5a, y5c, rfl⟩ := rowsNew_slice hrn
    go_wp2_with (go_at_call 9; fail)
    obtain ⟨W1, hWW1⟩ : ∃ z, z = w5.alloc (.cells #[.slice x5a cs.length x5c, .slice y5a DRV.length y5c] 25) := ⟨_, rfl⟩
    rw [← hWW1]
    have hbW1 : Below w4.heap.size w4 W1 := by rw [hWW1]; exact hxo _
    have hW1 : W1.heap.size = w5.heap.size + 1 := by rw [hWW1]; simp
    have SW1 := Hid.mk (ST4.out.below hbW1)
    have hcw : ColsIs W1 (.slice x5a cs.length x5c) cs := by rw [hWW1]; exact hcn.is.below (below_box _ _)
    have hrw : RowsIs W1 (.slice y5a DRV.length y5c) DRV := by rw [hWW1]; exact hrn.is.below (below_box _ _)
    have T3 := Hid.mk (show TabIs W1 w5.heap.size cs DRV by rw [hWW1]; exact tab_laid hcn hrn rfl)
    have HCW := Hid.mk (And.intro hcw hrw)
    clear hWW1 hxo hcn hrn hcw hrw HB
    generalize w5.heap.size = b3 at *
    refine (HD.out _ _ cs DRV W1 _ SW1.out.2.2.2 hW1 HCW.out.1 HCW.out.2).mono ?_
    rintro e w6 ⟨hres, HB⟩
    have hxo : ∀ o, Below W1.heap.size W1 (w6.alloc o) := fun o => bel_box (bel_then (below_box _ _) HB) o
    obtain ⟨-, x5, y5, rfl, hcn, hrn⟩ := hres.resolve_right (fun h => h.1 (dist_0.2 HDR.out))
    rw [HDD.out] at hrn
    dsimp only at hrn hcn
    obtain ⟨x5a, x5c, rfl⟩ := own_slice hcn.1
    obtain ⟨y5a, y5c, rfl⟩ := rowsNew_slice hrn
    clear HCW hW1
    go_wp2
    obtain ⟨W2, hWW2⟩ : ∃ z, z = w6.alloc (.cells #[.slice x5a cs.length x5c, .slice y5a DRV.length y5c] 25) := ⟨_, rfl⟩
    rw [← hWW2]
    have hbW2 : Below W1.heap.size W1 W2 := by rw [hWW2]; exact hxo _
    have hW2 : W2.heap.size = w6.heap.size + 1 := by rw [hWW2]; simp
    have SW2 := Hid.mk (SW1.out.below hbW2)
    have hcw : ColsIs W2 (.slice x5a cs.length x5c) cs := by rw [hWW2]; exact hcn.is.below (below_box _ _)
    have hrw : RowsIs W2 (.slice y5a DRV.length y5c) DRV := by rw [hWW2]; exact hrn.is.below (below_box _ _)
    have T5 := Hid.mk (show TabIs W2 w6.heap.size cs DRV by rw [hWW2]; exact tab_laid hcn hrn rfl)
    have T3b := Hid.mk (T3.out.below hbW2)
    have HCW := Hid.mk (And.intro hcw hrw)
    clear hWW2 hxo hcn hrn hcw hrw HB hbW1 T3
    generalize w6.heap.size = b5 at *
    clear HCW
    obtain ⟨hl1, hl2, hl3, hl4⟩ := HLN.out
    obtain ⟨cb, co, hva, hcl, hat⟩ : ∃ b o, va = some ⟨b, o, none⟩ ∧ b < w.heap.size ∧ ColsAt w b o cs := by
      obtain ⟨a', c', he, -, -, hor⟩ := HCR.out.1
      rcases hor with hor | ⟨b, o, ha, hbl, hat⟩
      · rw [hor] at hl1; simp at hl1
      · simp only [Value.slice.injEq] at he
        exact ⟨b, o, he.1.trans ha, hbl, hat⟩
    subst hva
    obtain ⟨i0, hi, hz0, hz1, hz2⟩ := info_parts Tryz.infoS
    have HAT := Hid.mk hat
    have HNM := Hid.mk (fun k (hk : k < cs.length) => show nmCells (cs.take k) ++ [.string cs[k].1] = nmCells (cs.take (k + 1)) by rw [List.take_succ_eq_append_getElem hk]; unfold nmCells; rw [List.map_append, List.map_append]; rfl)
    clear hat hW2 hbW2
    have hW0 := SW2.out.2.2.1
    go_loopw [6, 7] (fun l i wr => ∃ k : Nat, k ≤ cs.length ∧ i = .int .i64 k ∧ wr.ownsRow W2.heap.size 9 1 l k (nmCells (cs.take k)) ∧ Below W2.heap.size W2 wr) (fun _ i _ => cs.length - (intOf i).toNat)
    case atStart => exact ⟨0, Nat.zero_le _, rfl, World.ownsRow_nil _ _ _ _, Below.refl _ _⟩
    case round =>
      obtain ⟨k, hk, rfl, hown, hnx⟩ := hrel
      obtain ⟨la, lc, rfl⟩ := own_slice hown
      have HX := Hid.mk (And.intro hown hnx)
      have hws := hnx.size
      have SR := Hid.mk (SW2.out.below hnx)
      have m0 := SR.out.1
      by_cases hlt : k < cs.length
      · obtain ⟨e0, -⟩ := HAT.out k hlt
        have d0 := (SR.out.2.2.2.cell (p := ⟨cb, co + k * 2, none⟩) hcl).trans e0
        have HT := Hid.mk (HNM.out k hlt)
        generalize cs[k].1 = nm at *
        clear hown hnx e0
        go_wp2_with (at_builtin; refine wpList_append_own _ rfl _ _ 30 rfl W2.heap.size 9 i0 (.string ⟨#[]⟩) 1 16 Tryz.underlying30 hi hz0 hz1 hz2 rfl (by decide) _ _ _ rfl (HX.out.1.alloc _) ⟨wr.heap.size, 0, none⟩ 1 1 [.string nm] rfl rfl (news1 _ _ _ _ rfl) (one1t _) ?c3 ?c4 ?c5 ?_)
        case c3 => unfold maxLen; omega
        case c4 => omega
        case c5 => simp; omega
        intro v' w8 hown' hgrow _
        have hbl5 : Below W2.heap.size W2 w8 := (bel_box HX.out.2 _).grown hgrow (by simp; omega) (fun q hq => (HX.out.1.lt q hq).1)
        rw [HT.out] at hown'
        have HF := Hid.mk (And.intro hown' hbl5)
        clear hown' hgrow hbl5 m0 d0
        go_wp2
        go_roundw
        case rel => exact ⟨k + 1, by omega, by go_num, HF.out.1, HF.out.2⟩
        case measure => simp [intOf]; omega
      · have hke : k = cs.length := by omega
        subst hke
        rw [List.take_of_length_le (Nat.le_refl _)] at hown
        have HSC := Hid.mk (names_of hown (by omega) (by omega))
        have T3c := Hid.mk (T3b.out.below hnx)
        have T5c := Hid.mk (T5.out.below hnx)
        have m1 := SR.out.2.1
        clear hown hnx HX SW2 T3b T5 hlt
        go_wp2_with (go_at_call 9; fail)
        refine (HPJ.out _ _ _ cs rs _ wr _ rfl (HCR.out.1.below SR.out.2.2.2) (HCR.out.2.below SR.out.2.2.2) HSC.out).mono ?_
        rintro e w7 ⟨hres, HB⟩
        have hxo : ∀ o, Below wr.heap.size wr (w7.alloc o) := fun o => bel_box (bel_then (below_box _ _) HB) o
        have g0 : ∀ o, (w7.alloc o).cell? ⟨w.heap.size, 0, none⟩ = some (.slice (some ⟨cb, co, none⟩) cs.length vcp) := fun o => (SR.out.below (hxo o)).1
        have g1 : ∀ o, (w7.alloc o).cell? ⟨w.heap.size, 1, none⟩ = some (.slice ra rs.length rcp) := fun o => (SR.out.below (hxo o)).2.1
        obtain ⟨-, x5, y5, rfl, hcn, hrn⟩ := hres.resolve_right (fun h => h.1 HAP.out.1)
        rw [HAP.out.2.2] at hrn
        rw [HAP.out.2.1] at hcn
        dsimp only at hrn hcn
        obtain ⟨x5a, x5c, rfl⟩ := own_slice hcn.1
        obtain ⟨y5a, y5c, rfl⟩ := rowsNew_slice hrn
        obtain ⟨px, py, p0, p1, pl, pc, pr⟩ := T3c.out
        obtain ⟨pxa, pxc, rfl, -⟩ := id pc
        obtain ⟨pya, pyc, rfl, -⟩ := id pr
        have pP := Hid.mk (And.intro pc pr)
        have pq0 : ∀ o, (w7.alloc o).cell? ⟨b3, 0, none⟩ = _ := fun o => ((hxo o).cell (p := ⟨b3, 0, none⟩) pl).trans p0
        have pq1 : ∀ o, (w7.alloc o).cell? ⟨b3, 1, none⟩ = _ := fun o => ((hxo o).cell (p := ⟨b3, 1, none⟩) pl).trans p1
        clear p0 p1 pl pc pr
        obtain ⟨qx, qy, q0, q1, ql, qc, qr⟩ := T5c.out
        obtain ⟨qxa, qxc, rfl, -⟩ := id qc
        obtain ⟨qya, qyc, rfl, -⟩ := id qr
        have qP := Hid.mk (And.intro qc qr)
        have qq0 : ∀ o, (w7.alloc o).cell? ⟨b5, 0, none⟩ = _ := fun o => ((hxo o).cell (p := ⟨b5, 0, none⟩) ql).trans q0
        have qq1 : ∀ o, (w7.alloc o).cell? ⟨b5, 1, none⟩ = _ := fun o => ((hxo o).cell (p := ⟨b5, 1, none⟩) ql).trans q1
        clear q0 q1 ql qc qr
        clear m0 m1
        go_wp2_with (go_at_call 11; fail)
        have hsd := rows_small HDR.out
        have hsr := rows_small HRR.out
        obtain ⟨W3, hWW3⟩ : ∃ z, z = w7.alloc (.cells #[.slice x5a cs.length x5c, .slice y5a rs.length y5c] 25) := ⟨_, rfl⟩
        rw [← hWW3]
        have hbW3 : Below wr.heap.size wr W3 := by rw [hWW3]; exact hxo _
        have hW3 : W3.heap.size = w7.heap.size + 1 := by rw [hWW3]; simp
        have SW3 := Hid.mk (SR.out.below hbW3)
        have hcw : ColsIs W3 (.slice x5a cs.length x5c) cs := by rw [hWW3]; exact hcn.is.below (below_box _ _)
        have hrw : RowsIs W3 (.slice y5a rs.length y5c) rs := by rw [hWW3]; exact hrn.is.below (below_box _ _)
        have T8 := Hid.mk (show TabIs W3 w7.heap.size cs rs by rw [hWW3]; exact tab_laid hcn hrn rfl)
        have T3d := Hid.mk (T3c.out.below hbW3)
        have HCW := Hid.mk (And.intro hcw hrw)
        clear hWW3 hxo hcn hrn hcw hrw HB g0 g1 pq0 pq1 qq0 qq1 hW0 T3c T5c
        generalize w7.heap.size = b8 at *
        refine (same_any _ _ _ _ cs DRV _ (qP.out.1.below hbW3) (qP.out.2.below hbW3) (pP.out.1.below hbW3) (pP.out.2.below hbW3) hsd.1 hsd.2.1 hsd.2.2).mono ?_
        rintro e W4 ⟨rfl, hb9⟩
        have SW4 := Hid.mk (SW3.out.below hb9)
        have T3e := Hid.mk (T3d.out.below hb9)
        have h0 := SW4.out.1
        have h1 := SW4.out.2.1
        obtain ⟨sx, sy, s0, s1, sl, sc, sr⟩ := (T8.out.below hb9)
        obtain ⟨sxa, sxc, rfl, -⟩ := id sc
        obtain ⟨sya, syc, rfl, -⟩ := id sr
        have HP8 := Hid.mk (And.intro sc sr)
        clear pP qP hb9 hbW3 HCW SW3 T8 T3d sl sc sr hW3
        go_wp2_with (go_at_call 11; fail)
        refine (same_any _ _ _ _ cs rs _ HP8.out.1 HP8.out.2 (HCR.out.1.below SW4.out.2.2.2) (HCR.out.2.below SW4.out.2.2.2) hsr.1 hsr.2.1 hsr.2.2).mono ?_
        rintro e W5 ⟨rfl, hb9⟩
        have SW5 := Hid.mk (SW4.out.below hb9)
        have T3f := Hid.mk (T3e.out.below hb9)
        clear h0 h1 s0 s1 HP8 SW4 T3e hb9
        have h0 := SW5.out.1
        have h1 := SW5.out.2.1
        go_wp2_with (go_at_call 9; fail)
        refine (HU.out _ _ _ _ (cs, rs) (cs, rs) W5 _ rfl (HCR.out.1.below SW5.out.2.2.2) (HCR.out.2.below SW5.out.2.2.2) (HCR.out.1.below SW5.out.2.2.2) (HCR.out.2.below SW5.out.2.2.2)).mono ?_
        rintro e w8 ⟨hres, HB⟩
        clear h0 h1
        have hxo : ∀ o, Below W5.heap.size W5 (w8.alloc o) := fun o => bel_box (bel_then (below_box _ _) HB) o
        rcases hres with ⟨hokU, x5, y5, rfl, hcn, hrn⟩ | ⟨hnoU, rfl⟩
        · dsimp only at hcn hrn
          rw [HURV.out] at hrn
          obtain ⟨x5a, x5c, rfl⟩ := own_slice hcn.1
          obtain ⟨y5a, y5c, rfl⟩ := rowsNew_slice hrn
          go_wp2_with (go_at_call 9; fail)
          obtain ⟨W6, hWW6⟩ : ∃ z, z = w8.alloc (.cells #[.slice x5a cs.length x5c, .slice y5a URV.length y5c] 25) := ⟨_, rfl⟩
          rw [← hWW6]
          have hbW6 : Below W5.heap.size W5 W6 := by rw [hWW6]; exact hxo _
          have hW6 : W6.heap.size = w8.heap.size + 1 := by rw [hWW6]; simp
          have SW6 := Hid.mk (SW5.out.below hbW6)
          have hcw : ColsIs W6 (.slice x5a cs.length x5c) cs := by rw [hWW6]; exact hcn.is.below (below_box _ _)
          have hrw : RowsIs W6 (.slice y5a URV.length y5c) URV := by rw [hWW6]; exact hrn.is.below (below_box _ _)
          have T10 := Hid.mk (show TabIs W6 w8.heap.size cs URV by rw [hWW6]; exact tab_laid hcn hrn rfl)
          have T3g := Hid.mk (T3f.out.below hbW6)
          have HCW := Hid.mk (And.intro hcw hrw)
          clear hWW6 hxo hcn hrn hcw hrw HB T3f
          generalize w8.heap.size = b10 at *
          have hru : rightB cs URV = true := by rw [← HURV.out]; exact right_append HRR.out HRR.out (uniNo_0 hokU).2.2.2
          have hdu : (distF URV).2 = DRV := by rw [← HURV.out, dist_twice]; exact HDRV.out
          have HRU := Hid.mk (And.intro hru hdu)
          clear hru hdu
          refine (HD.out _ _ cs URV W6 _ SW6.out.2.2.2 hW6 HCW.out.1 HCW.out.2).mono ?_
          rintro e w9 ⟨hres, HB⟩
          have hxo : ∀ o, Below W6.heap.size W6 (w9.alloc o) := fun o => bel_box (bel_then (below_box _ _) HB) o
          obtain ⟨-, x5, y5, rfl, hcn, hrn⟩ := hres.resolve_right (fun h => h.1 (dist_0.2 HRU.out.1))
          rw [HRU.out.2] at hrn
          dsimp only at hrn hcn
          obtain ⟨x5a, x5c, rfl⟩ := own_slice hcn.1
          obtain ⟨y5a, y5c, rfl⟩ := rowsNew_slice hrn
          clear HCW hW6
          obtain ⟨vx, vy, v0, v1, vl, vc, vr⟩ := T3g.out
          obtain ⟨vxa, vxc, rfl, -⟩ := id vc
          obtain ⟨vya, vyc, rfl, -⟩ := id vr
          have vP := Hid.mk (And.intro vc vr)
          have vq0 : ∀ o, (w9.alloc o).cell? ⟨b3, 0, none⟩ = _ := fun o => ((hxo o).cell (p := ⟨b3, 0, none⟩) vl).trans v0
          have vq1 : ∀ o, (w9.alloc o).cell? ⟨b3, 1, none⟩ = _ := fun o => ((hxo o).cell (p := ⟨b3, 1, none⟩) vl).trans v1
          clear v0 v1 vl vc vr
          go_wp2_with (go_at_call 11; fail)
          refine (same_any _ _ _ _ cs DRV _ (hcn.is.below (below_box _ _)) (hrn.is.below (below_box _ _)) (vP.out.1.below (hxo _)) (vP.out.2.below (hxo _)) hsd.1 hsd.2.1 hsd.2.2).mono ?_
          rintro e w10 ⟨rfl, hb9⟩
          have HBF := Hid.mk (bel_then (bel_then SW6.out.2.2.2 (hxo _)) hb9)
          clear hb9 hxo vq0 vq1 hcn hrn HB
          go_wp2
          go_ret
          exact ⟨rfl, HBF.out⟩
        · have hz := uni_no HRR.out hnoU
          have hz' : (60 : Int) < 2 * (rs.length : Int) := by omega
          have g1 : ∀ o, (w8.alloc o).cell? ⟨w.heap.size, 1, none⟩ = some (.slice ra rs.length rcp) := fun o => (SW5.out.below (hxo o)).2.1
          have HBF := Hid.mk (fun o => (SW5.out.below (hxo o)).2.2.2)
          clear hxo HB hz
          go_wp2
          go_ret
          exact ⟨by first | rfl | (simp; omega), HBF.out _⟩
end Go.Proofs.YtccbjhaebajamaaGreatDoor
