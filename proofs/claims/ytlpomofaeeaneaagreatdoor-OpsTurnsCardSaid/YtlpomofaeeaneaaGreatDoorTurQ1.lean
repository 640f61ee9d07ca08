import Derived.Test.YtlpomofaeeaneaaGreatDoorTurK
set_option linter.unusedSimpArgs false
set_option linter.unusedVariables false
namespace Go.Proofs.YtlpomofaeeaneaaGreatDoor
open Go.RowKit

set_option maxRecDepth 100000 in
set_option maxHeartbeats 6400000 in
theorem turns_okq1 (j : Jb) (js : List ByteArray) (vc vr vc2 vr2 cv : Value) (cs cs2 : List Cl) (rs rs2 : List (List Vl)) (ss : List ByteArray) (w : World) (hjs : StrsIs w j.cols js) (hjl : js.length ≤ maxLen) (hsz : j.sized) (hc : ColsIs w vc cs) (hr : RowsIs w vr rs) (hc2 : ColsIs w vc2 cs2) (hr2 : RowsIs w vr2 rs2) (hss : StrsIs w cv ss) (hsc : StrsC w cv ss) (hE : Env w) (hF0 : filtNo j.filt (cs, rs) = 0) (hP0 : projNo (cs, rs) ss = 0) (hC0 : inS ss j.left.1.data.toList = true ∧ j.right.1.data.toList = []) (hX0 : (uniNo (cs, rs) (cs2, rs2) = 0 ∧ filtNo j.filt (cs2, rs2) = 0)) :
    Calls Tryz.prog 4 #[.agg j.cells, .agg #[vc, vr], .agg #[vc2, vr2], cv] w fun e w' => e = .returned (.bool true) ∧ Below w.heap.size w w' := by
  have HSH := Hid.mk (fun W (hW : Below w.heap.size w W) => short_any j js W (hjs.below hW) hsz hjl)
  have HS1 := Hid.mk (fun W (hW : Below w.heap.size w W) => small_any vc vr cs rs W (hc.below hW) (hr.below hW))
  have HS2 := Hid.mk (fun W (hW : Below w.heap.size w W) => small_any vc2 vr2 cs2 rs2 W (hc2.below hW) (hr2.below hW))
  have HCF := Hid.mk (fun W (hW : Below w.heap.size w W) (h8 : ss.length ≤ 100) => hasT_is cv ss W (hss.below hW) h8)
  have HDN := Hid.mk (fun W (hW : Below w.heap.size w W) => done_any W (hE.below hW))
  have hx : j.filt.right.2.2.2.size ≤ maxLen := hsz.2.2.2.2
  have hF' := fun (xc xr : Value) (ds : List Cl) (qs : List (List Vl)) (W : World) (H : Nat) (hH : W.heap.size = H) (h1 : ColsIs W xc ds) (h2 : RowsIs W xr qs) => one_filt j.filt xc xr ds qs W H hH h1 h2 rfl hx
  have hP' := fun (xc xr : Value) (ds : List Cl) (qs : List (List Vl)) (W : World) (H : Nat) (hW : Below w.heap.size w W) (hH : W.heap.size = H) (h1 : ColsIs W xc ds) (h2 : RowsIs W xr qs) => one_proj (jPick cv) ss xc xr ds qs W H hH h1 h2 rfl (hsc.below hW)
  have HU := Hid.mk one_uni
  have HFN := Hid.mk hF0
  clear hF0
  have HPN := Hid.mk hP0
  clear hP0
  have HCC := Hid.mk hC0
  clear hC0
  have HXX := Hid.mk hX0
  clear hX0
  have HCR := Hid.mk (And.intro hc (And.intro hr (And.intro hc2 (And.intro hr2 hsc))))
  have hJ0 : JobAt (((w.alloc (.cells j.cells 36)).alloc (.cells #[vc, vr] 25)).alloc (.cells #[vc2, vr2] 25)) w.heap.size j := ((job_new w j _).below (below_box _ _) (by simp)).below (below_box _ _) (by simp; omega)
  have hF0 : JobFree (((w.alloc (.cells j.cells 36)).alloc (.cells #[vc, vr] 25)).alloc (.cells #[vc2, vr2] 25)) w.heap.size := ((JobFree.new w _ _ _ rfl).below (below_box _ _) (by simp)).below (below_box _ _) (by simp; omega)
  obtain ⟨va, vcp, rfl, -⟩ := hc
  obtain ⟨ra, rcp, rfl, -⟩ := hr
  obtain ⟨va2, vcp2, rfl, -⟩ := hc2
  obtain ⟨ra2, rcp2, rfl, -⟩ := hr2
  obtain ⟨cva, cvc, rfl, hcvl, hcml, -⟩ := hsc
  unfold jU Jb.cells at HU
  have HF : Hid (∀ (xc xr : Value) (ds : List Cl) (qs : List (List Vl)) (W : World) (H : Nat), W.heap.size = H → ColsIs W xc ds → RowsIs W xr qs → Calls Tryz.prog 8 #[.agg #[.int .i64 j.at_, .int .i64 1, j.outs, j.ins, .slice none 0 0, .string j.op, .string j.left.1, .int .i64 j.left.2.1, .int .i64 j.left.2.2.1, .string j.left.2.2.2, .string j.right.1, .int .i64 j.right.2.1, .int .i64 j.right.2.2.1, .string j.right.2.2.2, .int .i64 j.retry], .slice (some ⟨H, 0, none⟩) 1 1] (W.alloc (.cells #[xc, xr] 25)) fun e w' => OneRes e w' W.heap.size (filtNo j.filt (ds, qs) = 0) (ds, qs.filter (testB ds j.filt)) ∧ Below (W.alloc (.cells #[xc, xr] 25)).heap.size (W.alloc (.cells #[xc, xr] 25)) w') := Hid.mk hF'
  have HPJ : Hid (∀ (xc xr : Value) (ds : List Cl) (qs : List (List Vl)) (W : World) (H : Nat), Below w.heap.size w W → W.heap.size = H → ColsIs W xc ds → RowsIs W xr qs → Calls Tryz.prog 8 #[.agg #[.int .i64 0, .int .i64 3, .slice none 0 0, .slice none 0 0, .slice cva ss.length cvc, .string ⟨#[]⟩, .string ⟨#[]⟩, .int .i64 0, .int .i64 0, .string ⟨#[]⟩, .string ⟨#[]⟩, .int .i64 0, .int .i64 0, .string ⟨#[]⟩, .int .i64 0], .slice (some ⟨H, 0, none⟩) 1 1] (W.alloc (.cells #[xc, xr] 25)) fun e w' => OneRes e w' W.heap.size (projNo (ds, qs) ss = 0) (pickC (placesN ds ss) ds, qs.map (pickV (placesN ds ss))) ∧ Below (W.alloc (.cells #[xc, xr] 25)).heap.size (W.alloc (.cells #[xc, xr] 25)) w') := Hid.mk hP'
  clear hF' hP'
  obtain ⟨FRV, hFRV⟩ : ∃ z, rs.filter (testB cs j.filt) = z := ⟨_, rfl⟩
  obtain ⟨GRV, hGRV⟩ : ∃ z, rs2.filter (testB cs2 j.filt) = z := ⟨_, rfl⟩
  obtain ⟨PCV, hPCV⟩ : ∃ z, pickC (placesN cs ss) cs = z := ⟨_, rfl⟩
  obtain ⟨PRV, hPRV⟩ : ∃ z, rs.map (pickV (placesN cs ss)) = z := ⟨_, rfl⟩
  obtain ⟨URV, hURV⟩ : ∃ z, rs ++ rs2 = z := ⟨_, rfl⟩
  have HFRV := Hid.mk hFRV
  have HGRV := Hid.mk hGRV
  have HPCV := Hid.mk hPCV
  have HPRV := Hid.mk hPRV
  have HURV := Hid.mk hURV
  clear hFRV hGRV hPCV hPRV hURV
  unfold Jb.cells at HSH hJ0 hF0 ⊢
  have HJ0 := Hid.mk (And.intro hJ0 hF0)
  have HN := Hid.mk (And.intro hsz hcml)
  unfold maxLen at hcml
  clear hJ0 hF0 hjs hjl hsz hE hss hx hcvl
  go_enter Tryz.func4, Tryz.ntmps4
  go_wp2_with fail
  refine (HSH.out _ (bel_box (bel_box (below_box _ _) _) _)).mono ?_
  rintro e w1 ⟨⟨bb, rfl⟩, hb1⟩
  have hb01 := bel_then (bel_box (bel_box (below_box _ _) _) _) hb1
  have hJ1 := HJ0.out.1.below hb1 (by simp; omega)
  have hF1 := HJ0.out.2.below hb1 (by simp; omega)
  have s0 : w1.cell? ⟨w.heap.size + 1, 0, none⟩ = some (.slice va cs.length vcp) := (hb1.cell (p := ⟨w.heap.size + 1, 0, none⟩) (by simp)).trans (((below_box _ _).cell (p := ⟨w.heap.size + 1, 0, none⟩) (by simp)).trans (by rw [World.cell?_alloc_at _ _ _ _ (by simp)]; rfl))
  have s1 : w1.cell? ⟨w.heap.size + 1, 1, none⟩ = some (.slice ra rs.length rcp) := (hb1.cell (p := ⟨w.heap.size + 1, 1, none⟩) (by simp)).trans (((below_box _ _).cell (p := ⟨w.heap.size + 1, 1, none⟩) (by simp)).trans (by rw [World.cell?_alloc_at _ _ _ _ (by simp)]; rfl))
  have s2 : w1.cell? ⟨w.heap.size + 1 + 1, 0, none⟩ = some (.slice va2 cs2.length vcp2) := (hb1.cell (p := ⟨w.heap.size + 1 + 1, 0, none⟩) (by simp)).trans (by rw [World.cell?_alloc_at _ _ _ _ (by simp)]; rfl)
  have s3 : w1.cell? ⟨w.heap.size + 1 + 1, 1, none⟩ = some (.slice ra2 rs2.length rcp2) := (hb1.cell (p := ⟨w.heap.size + 1 + 1, 1, none⟩) (by simp)).trans (by rw [World.cell?_alloc_at _ _ _ _ (by simp)]; rfl)
  have hz1 : w.heap.size + 1 + 1 < w1.heap.size := by have := hb1.size; simp at this; omega
  have H1 := Hid.mk (And.intro hJ1 (And.intro hF1 hb01))
  clear hb1 hb01 hJ1 hF1 HJ0
  cases bb
  · go_wp2
    go_ret
    exact ⟨rfl, H1.out.2.2⟩
  · go_wp2_with fail
    refine (HS1.out _ H1.out.2.2).mono ?_
    rintro e w2 ⟨rfl, hb2⟩
    have q2 := (hb2.cell (p := ⟨w.heap.size + 1 + 1, 0, none⟩) hz1).trans s2
    have q3 := (hb2.cell (p := ⟨w.heap.size + 1 + 1, 1, none⟩) hz1).trans s3
    have HB2 := Hid.mk (And.intro hb2 (bel_then H1.out.2.2 hb2))
    clear hb2
    generalize smallB cs rs = g1 at *
    cases g1
    · go_wp2
      go_ret
      exact ⟨rfl, HB2.out.2⟩
    · go_wp2_with fail
      refine (HS2.out _ HB2.out.2).mono ?_
      rintro e w3 ⟨rfl, hb3⟩
      have HB3 := Hid.mk (And.intro (bel_then HB2.out.1 hb3) (bel_then HB2.out.2 hb3))
      clear hb3 q2 q3 HB2
      generalize smallB cs2 rs2 = g2 at *
      cases g2
      · go_wp2
        go_ret
        exact ⟨rfl, HB3.out.2⟩
      · by_cases h8 : ss.length ≤ 8
        · have h8' : ¬ ((8 : Int) < (ss.length : Int)) := by omega
          have HH8 := Hid.mk h8
          clear h8
          go_wp2_with fail
          refine (HCF.out _ HB3.out.2 (by have := HH8.out; omega)).mono ?_
          rintro e w3' ⟨⟨bb, rfl⟩, rfl⟩
          cases bb
          · go_wp2_with (go_at_call 7; fail)
            refine (HDN.out _ HB3.out.2).mono ?_
            rintro e w4 ⟨rfl, hb4⟩
            have hb14 := bel_then HB3.out.1 hb4
            have hJ4 := H1.out.1.below hb14 (by omega)
            have hF4 := H1.out.2.1.below hb14 (by omega)
            have k0 := (hb14.cell (p := ⟨w.heap.size + 1, 0, none⟩) (by show w.heap.size + 1 < _; omega)).trans s0
            have k1 := (hb14.cell (p := ⟨w.heap.size + 1, 1, none⟩) (by show w.heap.size + 1 < _; omega)).trans s1
            have k2 := (hb14.cell (p := ⟨w.heap.size + 1 + 1, 0, none⟩) hz1).trans s2
            have k3 := (hb14.cell (p := ⟨w.heap.size + 1 + 1, 1, none⟩) hz1).trans s3
            have hz4 : w.heap.size + 1 + 1 < w4.heap.size := by have := hb14.size; omega
            have hy4 : w.heap.size < w4.heap.size := by omega
            have hy4' : w.heap.size + 1 < w4.heap.size := by omega
            have hb04 := bel_then HB3.out.2 hb4
            have a0 : w4.cell? ⟨w.heap.size, 0, none⟩ = some (.int .i64 j.at_) := hJ4 0 _ rfl
            have a1 : w4.cell? ⟨w.heap.size, 1, none⟩ = some (.int .i64 j.code) := hJ4 1 _ rfl
            have a2 : w4.cell? ⟨w.heap.size, 2, none⟩ = some j.outs := hJ4 2 _ rfl
            have a3 : w4.cell? ⟨w.heap.size, 3, none⟩ = some j.ins := hJ4 3 _ rfl
            have a4 : w4.cell? ⟨w.heap.size, 4, none⟩ = some j.cols := hJ4 4 _ rfl
            have a5 : w4.cell? ⟨w.heap.size, 5, none⟩ = some (.string j.op) := hJ4 5 _ rfl
            have a6 : w4.cell? ⟨w.heap.size, 6, none⟩ = some (.string j.left.1) := hJ4 6 _ rfl
            have a7 : w4.cell? ⟨w.heap.size, 7, none⟩ = some (.int .i64 j.left.2.1) := hJ4 7 _ rfl
            have a8 : w4.cell? ⟨w.heap.size, 8, none⟩ = some (.int .i64 j.left.2.2.1) := hJ4 8 _ rfl
            have a9 : w4.cell? ⟨w.heap.size, 9, none⟩ = some (.string j.left.2.2.2) := hJ4 9 _ rfl
            have a10 : w4.cell? ⟨w.heap.size, 10, none⟩ = some (.string j.right.1) := hJ4 10 _ rfl
            have a11 : w4.cell? ⟨w.heap.size, 11, none⟩ = some (.int .i64 j.right.2.1) := hJ4 11 _ rfl
            have a12 : w4.cell? ⟨w.heap.size, 12, none⟩ = some (.int .i64 j.right.2.2.1) := hJ4 12 _ rfl
            have a13 : w4.cell? ⟨w.heap.size, 13, none⟩ = some (.string j.right.2.2.2) := hJ4 13 _ rfl
            have a14 : w4.cell? ⟨w.heap.size, 14, none⟩ = some (.int .i64 j.retry) := hJ4 14 _ rfl
            have f1 := hF4 1
            have f4 := hF4 4
            have H4 := Hid.mk (And.intro hJ4 (And.intro hF4 hb04))
            clear hb4 hb14 hb04 hJ4 hF4 s0 s1 s2 s3 hz1 H1 HB3 HCF HDN HS1 HS2 HSH
            go_wp2_with (go_at_call 8; fail)
            obtain ⟨X, hX⟩ : ∃ x, x = (w4.setCell ⟨w.heap.size, 1, none⟩ (.int .i64 1)).setCell ⟨w.heap.size, 4, none⟩ (.slice none 0 0) := ⟨_, rfl⟩
            rw [← hX]
            have hXs : X.heap.size = w4.heap.size := by rw [hX]; simp
            have hXJ : JobAt X w.heap.size j.filt := by rw [hX]; exact (H4.out.1.put (j' := { j with code := 1 }) 1 _ (by decide) rfl).put (j' := j.filt) 4 _ (by decide) rfl
            have x0 : X.cell? ⟨w.heap.size + 1, 0, none⟩ = some (.slice va cs.length vcp) := by rw [hX, World.cell?_setCell_other _ _ _ _ (by intro e; simp only [Addr.mk.injEq] at e; omega), World.cell?_setCell_other _ _ _ _ (by intro e; simp only [Addr.mk.injEq] at e; omega)]; exact k0
            have x1 : X.cell? ⟨w.heap.size + 1, 1, none⟩ = some (.slice ra rs.length rcp) := by rw [hX, World.cell?_setCell_other _ _ _ _ (by intro e; simp only [Addr.mk.injEq] at e; omega), World.cell?_setCell_other _ _ _ _ (by intro e; simp only [Addr.mk.injEq] at e; omega)]; exact k1
            have x2 : X.cell? ⟨w.heap.size + 1 + 1, 0, none⟩ = some (.slice va2 cs2.length vcp2) := by rw [hX, World.cell?_setCell_other _ _ _ _ (by intro e; simp only [Addr.mk.injEq] at e; omega), World.cell?_setCell_other _ _ _ _ (by intro e; simp only [Addr.mk.injEq] at e; omega)]; exact k2
            have x3 : X.cell? ⟨w.heap.size + 1 + 1, 1, none⟩ = some (.slice ra2 rs2.length rcp2) := by rw [hX, World.cell?_setCell_other _ _ _ _ (by intro e; simp only [Addr.mk.injEq] at e; omega), World.cell?_setCell_other _ _ _ _ (by intro e; simp only [Addr.mk.injEq] at e; omega)]; exact k3
            have hXb : Below w.heap.size w X := by rw [hX]; exact (H4.out.2.2.setCell (Nat.le_refl _) _).setCell (Nat.le_refl _) _
            obtain ⟨W0, hW0⟩ : ∃ x, x = X.alloc (.cells #[.int .i64 0, .int .i64 3, .slice none 0 0, .slice none 0 0, .slice cva ss.length cvc, .string ⟨#[]⟩, .string ⟨#[]⟩, .int .i64 0, .int .i64 0, .string ⟨#[]⟩, .string ⟨#[]⟩, .int .i64 0, .int .i64 0, .string ⟨#[]⟩, .int .i64 0] 36) := ⟨_, rfl⟩
            rw [← hW0]
            have hB0 : Below X.heap.size X W0 := by rw [hW0]; exact below_box _ _
            have hH0 : W0.heap.size = w4.heap.size + 1 := by rw [hW0]; simp [hXs]
            have hJP : JobAt W0 w4.heap.size (jPick (.slice cva ss.length cvc)) := by rw [hW0, ← hXs]; exact job_new X (jPick (.slice cva ss.length cvc)) _
            have hST : Stt w W0 w4.heap.size j (.slice cva ss.length cvc) (.slice va cs.length vcp) (.slice ra rs.length rcp) (.slice va2 cs2.length vcp2) (.slice ra2 rs2.length rcp2) := ⟨hXJ.below hB0 (by omega), hJP, (hB0.cell (p := ⟨w.heap.size + 1, 0, none⟩) (by show w.heap.size + 1 < _; omega)).trans x0, (hB0.cell (p := ⟨w.heap.size + 1, 1, none⟩) (by show w.heap.size + 1 < _; omega)).trans x1, (hB0.cell (p := ⟨w.heap.size + 1 + 1, 0, none⟩) (by show w.heap.size + 1 + 1 < _; omega)).trans x2, (hB0.cell (p := ⟨w.heap.size + 1 + 1, 1, none⟩) (by show w.heap.size + 1 + 1 < _; omega)).trans x3, by omega, by omega, bel_then hXb hB0⟩
            have ST0 := Hid.mk hST
            clear hX hXs hXJ x0 x1 x2 x3 hXb hW0 hB0 hJP hST k0 k1 k2 k3 f1 f4 hz4 hy4 hy4' H4 a0 a1 a2 a3 a4 a5 a6 a7 a8 a9 a10 a11 a12 a13 a14
            generalize w4.heap.size = b9 at *
            refine (HF.out _ _ cs rs W0 _ hH0 (HCR.out.1.below ST0.out.2.2.2.2.2.2.2.2) (HCR.out.2.1.below ST0.out.2.2.2.2.2.2.2.2)).mono ?_
            rintro e w5 ⟨hres, hb5⟩
            have hxo : ∀ o, Below W0.heap.size W0 (w5.alloc o) := fun o => bel_box (bel_then (below_box _ _) hb5) o
            have gp0 : ∀ o, (w5.alloc o).cell? ⟨b9, 0, none⟩ = some (.int .i64 0) := fun o => (ST0.out.below (hxo o)).2.1 0 _ rfl
            have gp1 : ∀ o, (w5.alloc o).cell? ⟨b9, 1, none⟩ = some (.int .i64 3) := fun o => (ST0.out.below (hxo o)).2.1 1 _ rfl
            have gp2 : ∀ o, (w5.alloc o).cell? ⟨b9, 2, none⟩ = some (.slice none 0 0) := fun o => (ST0.out.below (hxo o)).2.1 2 _ rfl
            have gp3 : ∀ o, (w5.alloc o).cell? ⟨b9, 3, none⟩ = some (.slice none 0 0) := fun o => (ST0.out.below (hxo o)).2.1 3 _ rfl
            have gp4 : ∀ o, (w5.alloc o).cell? ⟨b9, 4, none⟩ = some (.slice cva ss.length cvc) := fun o => (ST0.out.below (hxo o)).2.1 4 _ rfl
            have gp5 : ∀ o, (w5.alloc o).cell? ⟨b9, 5, none⟩ = some (.string ⟨#[]⟩) := fun o => (ST0.out.below (hxo o)).2.1 5 _ rfl
            have gp6 : ∀ o, (w5.alloc o).cell? ⟨b9, 6, none⟩ = some (.string ⟨#[]⟩) := fun o => (ST0.out.below (hxo o)).2.1 6 _ rfl
            have gp7 : ∀ o, (w5.alloc o).cell? ⟨b9, 7, none⟩ = some (.int .i64 0) := fun o => (ST0.out.below (hxo o)).2.1 7 _ rfl
            have gp8 : ∀ o, (w5.alloc o).cell? ⟨b9, 8, none⟩ = some (.int .i64 0) := fun o => (ST0.out.below (hxo o)).2.1 8 _ rfl
            have gp9 : ∀ o, (w5.alloc o).cell? ⟨b9, 9, none⟩ = some (.string ⟨#[]⟩) := fun o => (ST0.out.below (hxo o)).2.1 9 _ rfl
            have gp10 : ∀ o, (w5.alloc o).cell? ⟨b9, 10, none⟩ = some (.string ⟨#[]⟩) := fun o => (ST0.out.below (hxo o)).2.1 10 _ rfl
            have gp11 : ∀ o, (w5.alloc o).cell? ⟨b9, 11, none⟩ = some (.int .i64 0) := fun o => (ST0.out.below (hxo o)).2.1 11 _ rfl
            have gp12 : ∀ o, (w5.alloc o).cell? ⟨b9, 12, none⟩ = some (.int .i64 0) := fun o => (ST0.out.below (hxo o)).2.1 12 _ rfl
            have gp13 : ∀ o, (w5.alloc o).cell? ⟨b9, 13, none⟩ = some (.string ⟨#[]⟩) := fun o => (ST0.out.below (hxo o)).2.1 13 _ rfl
            have gp14 : ∀ o, (w5.alloc o).cell? ⟨b9, 14, none⟩ = some (.int .i64 0) := fun o => (ST0.out.below (hxo o)).2.1 14 _ rfl
            have gt0 : ∀ o, (w5.alloc o).cell? ⟨w.heap.size + 1, 0, none⟩ = some (.slice va cs.length vcp) := fun o => (ST0.out.below (hxo o)).2.2.1
            have gt1 : ∀ o, (w5.alloc o).cell? ⟨w.heap.size + 1, 1, none⟩ = some (.slice ra rs.length rcp) := fun o => (ST0.out.below (hxo o)).2.2.2.1
            rcases hres with ⟨hokF, x5, y5, rfl, hcn, hrn⟩ | ⟨hnoF, rfl⟩
            · rw [HFRV.out] at hrn
              dsimp only at hrn hcn
              obtain ⟨x5a, x5c, rfl⟩ := own_slice hcn.1
              obtain ⟨y5a, y5c, rfl⟩ := rowsNew_slice hrn
              go_wp2_with (go_at_call 8; fail)
              obtain ⟨W1, hWW1⟩ : ∃ z, z = w5.alloc (.cells #[.slice x5a cs.length x5c, .slice y5a FRV.length y5c] 25) := ⟨_, rfl⟩
              rw [← hWW1]
              have hbW1 : Below W0.heap.size W0 W1 := by rw [hWW1]; exact hxo _
              have hH1 : W1.heap.size = w5.heap.size + 1 := by rw [hWW1]; simp
              have ST1 := Hid.mk (ST0.out.below hbW1)
              have T10 := Hid.mk (show TabIs W1 w5.heap.size cs FRV by rw [hWW1]; exact tab_laid hcn hrn rfl)
              clear hWW1 hxo hb5 hcn hrn gp0 gp1 gp2 gp3 gp4 gp5 gp6 gp7 gp8 gp9 gp10 gp11 gp12 gp13 gp14 gt0 gt1
              generalize w5.heap.size = b10 at *
              refine (HPJ.out _ _ cs rs W1 _ ST1.out.2.2.2.2.2.2.2.2 hH1 (HCR.out.1.below ST1.out.2.2.2.2.2.2.2.2) (HCR.out.2.1.below ST1.out.2.2.2.2.2.2.2.2)).mono ?_
              rintro e w6 ⟨hres6, hb6⟩
              have hxo : ∀ o, Below W1.heap.size W1 (w6.alloc o) := fun o => bel_box (bel_then (below_box _ _) hb6) o
              have ht0 : ∀ o, (w6.alloc o).cell? ⟨w.heap.size + 1, 0, none⟩ = some (.slice va cs.length vcp) := fun o => (ST1.out.below (hxo o)).2.2.1
              have ht1 : ∀ o, (w6.alloc o).cell? ⟨w.heap.size + 1, 1, none⟩ = some (.slice ra rs.length rcp) := fun o => (ST1.out.below (hxo o)).2.2.2.1
              have hu0 : ∀ o, (w6.alloc o).cell? ⟨w.heap.size + 1 + 1, 0, none⟩ = some (.slice va2 cs2.length vcp2) := fun o => (ST1.out.below (hxo o)).2.2.2.2.1
              have hu1 : ∀ o, (w6.alloc o).cell? ⟨w.heap.size + 1 + 1, 1, none⟩ = some (.slice ra2 rs2.length rcp2) := fun o => (ST1.out.below (hxo o)).2.2.2.2.2.1
              rcases hres6 with ⟨hokP, x5, y5, rfl, hcn, hrn⟩ | ⟨hnoP, rfl⟩
              · rw [HPRV.out] at hrn
                rw [HPCV.out] at hcn
                dsimp only at hrn hcn
                obtain ⟨x5a, x5c, rfl⟩ := own_slice hcn.1
                obtain ⟨y5a, y5c, rfl⟩ := rowsNew_slice hrn
                have hpp := proj_pos hokP
                obtain ⟨a', c', hcve, -, -, hor⟩ := HCR.out.2.2.2.2
                rcases hor with hor | ⟨nb, no, rfl, hnl, hnat⟩
                · rw [hor] at hpp
                  simp at hpp
                · simp only [Value.slice.injEq] at hcve
                  obtain ⟨rfl, -, -⟩ := hcve
                  have HCON := Hid.mk (fun (x : ByteArray) (V : World) (hV : Below w.heap.size w V) => containsS_any nb no ss.length cvc ss x V rfl (by omega) (hnat.below hV hnl))
                  have HPO := Hid.mk hokP
                  clear hpp hnat hokP
                  have l6 : ∀ o, (w6.alloc o).cell? ⟨w.heap.size, 6, none⟩ = some (.string j.left.1) := fun o => (ST1.out.below (hxo o)).1 6 _ rfl
                  have l10 : ∀ o, (w6.alloc o).cell? ⟨w.heap.size, 10, none⟩ = some (.string j.right.1) := fun o => (ST1.out.below (hxo o)).1 10 _ rfl
                  have gp0 : ∀ o, (w6.alloc o).cell? ⟨b9, 0, none⟩ = some (.int .i64 0) := fun o => (ST1.out.below (hxo o)).2.1 0 _ rfl
                  have gp1 : ∀ o, (w6.alloc o).cell? ⟨b9, 1, none⟩ = some (.int .i64 3) := fun o => (ST1.out.below (hxo o)).2.1 1 _ rfl
                  have gp2 : ∀ o, (w6.alloc o).cell? ⟨b9, 2, none⟩ = some (.slice none 0 0) := fun o => (ST1.out.below (hxo o)).2.1 2 _ rfl
                  have gp3 : ∀ o, (w6.alloc o).cell? ⟨b9, 3, none⟩ = some (.slice none 0 0) := fun o => (ST1.out.below (hxo o)).2.1 3 _ rfl
                  have gp4 : ∀ o, (w6.alloc o).cell? ⟨b9, 4, none⟩ = some (.slice (some ⟨nb, no, none⟩) ss.length cvc) := fun o => (ST1.out.below (hxo o)).2.1 4 _ rfl
                  have gp5 : ∀ o, (w6.alloc o).cell? ⟨b9, 5, none⟩ = some (.string ⟨#[]⟩) := fun o => (ST1.out.below (hxo o)).2.1 5 _ rfl
                  have gp6 : ∀ o, (w6.alloc o).cell? ⟨b9, 6, none⟩ = some (.string ⟨#[]⟩) := fun o => (ST1.out.below (hxo o)).2.1 6 _ rfl
                  have gp7 : ∀ o, (w6.alloc o).cell? ⟨b9, 7, none⟩ = some (.int .i64 0) := fun o => (ST1.out.below (hxo o)).2.1 7 _ rfl
                  have gp8 : ∀ o, (w6.alloc o).cell? ⟨b9, 8, none⟩ = some (.int .i64 0) := fun o => (ST1.out.below (hxo o)).2.1 8 _ rfl
                  have gp9 : ∀ o, (w6.alloc o).cell? ⟨b9, 9, none⟩ = some (.string ⟨#[]⟩) := fun o => (ST1.out.below (hxo o)).2.1 9 _ rfl
                  have gp10 : ∀ o, (w6.alloc o).cell? ⟨b9, 10, none⟩ = some (.string ⟨#[]⟩) := fun o => (ST1.out.below (hxo o)).2.1 10 _ rfl
                  have gp11 : ∀ o, (w6.alloc o).cell? ⟨b9, 11, none⟩ = some (.int .i64 0) := fun o => (ST1.out.below (hxo o)).2.1 11 _ rfl
                  have gp12 : ∀ o, (w6.alloc o).cell? ⟨b9, 12, none⟩ = some (.int .i64 0) := fun o => (ST1.out.below (hxo o)).2.1 12 _ rfl
                  have gp13 : ∀ o, (w6.alloc o).cell? ⟨b9, 13, none⟩ = some (.string ⟨#[]⟩) := fun o => (ST1.out.below (hxo o)).2.1 13 _ rfl
                  have gp14 : ∀ o, (w6.alloc o).cell? ⟨b9, 14, none⟩ = some (.int .i64 0) := fun o => (ST1.out.below (hxo o)).2.1 14 _ rfl
                  obtain ⟨zx, zy, z0, z1, zl, zc, zr⟩ := T10.out
                  obtain ⟨zxa, zxc, rfl, -⟩ := id zc
                  obtain ⟨zya, zyc, rfl, -⟩ := id zr
                  have zP := Hid.mk (And.intro zc zr)
                  have zq0 : ∀ o, (w6.alloc o).cell? ⟨b10, 0, none⟩ = _ := fun o => ((hxo o).cell (p := ⟨b10, 0, none⟩) zl).trans z0
                  have zq1 : ∀ o, (w6.alloc o).cell? ⟨b10, 1, none⟩ = _ := fun o => ((hxo o).cell (p := ⟨b10, 1, none⟩) zl).trans z1
                  clear z0 z1 zl zc zr
                  have HXO := Hid.mk hxo
                  go_wp2_with (go_at_call 14; fail)
                  have hcl := HCON.out j.left.1 _ (bel_then ST1.out.2.2.2.2.2.2.2.2 (HXO.out (.cells #[.slice x5a PCV.length x5c, .slice y5a PRV.length y5c] 25)))
                  cases hL : inS ss j.left.1.data.toList
                  · exact absurd (hL.symm.trans HCC.out.1) (by decide)
                  · rw [hL] at hcl
                    refine hcl.mono ?_
                    rintro e w6' ⟨rfl, rfl⟩
                    clear hcl
                    have HL := Hid.mk hL
                    clear hL
                    by_cases hR0 : j.right.1.data.toList = []
                    · have he : j.right.1.toList.isEmpty = true := by rw [ByteArray.toList_eq, hR0]; rfl
                      have HR := Hid.mk (show j.filt.right.1.data.toList = [] ∨ inS ss j.filt.right.1.data.toList = true from Or.inl hR0)
                      clear hR0
                      go_wp2_with (go_at_call 8; fail)
                      obtain ⟨W2, hWW2⟩ : ∃ z, z = w6.alloc (.cells #[.slice x5a PCV.length x5c, .slice y5a PRV.length y5c] 25) := ⟨_, rfl⟩
                      rw [← hWW2]
                      have hbW2 : Below W1.heap.size W1 W2 := by rw [hWW2]; exact hxo _
                      have hH2 : W2.heap.size = w6.heap.size + 1 := by rw [hWW2]; simp
                      have ST2 := Hid.mk (ST1.out.below hbW2)
                      have T12 := Hid.mk (show TabIs W2 w6.heap.size PCV PRV by rw [hWW2]; exact tab_laid hcn hrn rfl)
                      have T10b := Hid.mk (T10.out.below hbW2)
                      clear hWW2 hxo hb6 HXO hcn hrn zq0 zq1 l6 l10 gp0 gp1 gp2 gp3 gp4 gp5 gp6 gp7 gp8 gp9 gp10 gp11 gp12 gp13 gp14 ht0 ht1 hu0 hu1
                      generalize w6.heap.size = b12 at *
                      have IM := Hid.mk (inner_math HFN.out HPO.out HL.out HR.out)
                      refine (HPJ.out _ _ cs FRV W2 _ ST2.out.2.2.2.2.2.2.2.2 hH2 (zP.out.1.below hbW2) (zP.out.2.below hbW2)).mono ?_
                      rintro e w7 ⟨hres7, hb7⟩
                      have hpf : projNo (cs, FRV) ss = 0 := by rw [← HFRV.out]; exact IM.out.1
                      obtain ⟨-, x5, y5, rfl, hcn, hrn⟩ := hres7.resolve_right (fun h => h.1 hpf)
                      obtain ⟨QRV, hQRV⟩ : ∃ z, (rs.filter (testB cs j.filt)).map (pickV (placesN cs ss)) = z := ⟨_, rfl⟩
                      have hQ1 : FRV.map (pickV (placesN cs ss)) = QRV := by rw [← HFRV.out]; exact hQRV
                      have HQ1 := Hid.mk hQ1
                      have HQ2 := Hid.mk hQRV
                      clear hpf hQ1 hQRV
                      rw [HQ1.out] at hrn
                      rw [HPCV.out] at hcn
                      dsimp only at hrn hcn
                      obtain ⟨x5a, x5c, rfl⟩ := own_slice hcn.1
                      obtain ⟨y5a, y5c, rfl⟩ := rowsNew_slice hrn
                      have hxo : ∀ o, Below W2.heap.size W2 (w7.alloc o) := fun o => bel_box (bel_then (below_box _ _) hb7) o
                      have nf0 : ∀ o, (w7.alloc o).cell? ⟨w.heap.size, 0, none⟩ = some (.int .i64 j.at_) := fun o => (ST2.out.below (hxo o)).1 0 _ rfl
                      have nf1 : ∀ o, (w7.alloc o).cell? ⟨w.heap.size, 1, none⟩ = some (.int .i64 1) := fun o => (ST2.out.below (hxo o)).1 1 _ rfl
                      have nf2 : ∀ o, (w7.alloc o).cell? ⟨w.heap.size, 2, none⟩ = some j.outs := fun o => (ST2.out.below (hxo o)).1 2 _ rfl
                      have nf3 : ∀ o, (w7.alloc o).cell? ⟨w.heap.size, 3, none⟩ = some j.ins := fun o => (ST2.out.below (hxo o)).1 3 _ rfl
                      have nf4 : ∀ o, (w7.alloc o).cell? ⟨w.heap.size, 4, none⟩ = some (.slice none 0 0) := fun o => (ST2.out.below (hxo o)).1 4 _ rfl
                      have nf5 : ∀ o, (w7.alloc o).cell? ⟨w.heap.size, 5, none⟩ = some (.string j.op) := fun o => (ST2.out.below (hxo o)).1 5 _ rfl
                      have nf6 : ∀ o, (w7.alloc o).cell? ⟨w.heap.size, 6, none⟩ = some (.string j.left.1) := fun o => (ST2.out.below (hxo o)).1 6 _ rfl
                      have nf7 : ∀ o, (w7.alloc o).cell? ⟨w.heap.size, 7, none⟩ = some (.int .i64 j.left.2.1) := fun o => (ST2.out.below (hxo o)).1 7 _ rfl
                      have nf8 : ∀ o, (w7.alloc o).cell? ⟨w.heap.size, 8, none⟩ = some (.int .i64 j.left.2.2.1) := fun o => (ST2.out.below (hxo o)).1 8 _ rfl
                      have nf9 : ∀ o, (w7.alloc o).cell? ⟨w.heap.size, 9, none⟩ = some (.string j.left.2.2.2) := fun o => (ST2.out.below (hxo o)).1 9 _ rfl
                      have nf10 : ∀ o, (w7.alloc o).cell? ⟨w.heap.size, 10, none⟩ = some (.string j.right.1) := fun o => (ST2.out.below (hxo o)).1 10 _ rfl
                      have nf11 : ∀ o, (w7.alloc o).cell? ⟨w.heap.size, 11, none⟩ = some (.int .i64 j.right.2.1) := fun o => (ST2.out.below (hxo o)).1 11 _ rfl
                      have nf12 : ∀ o, (w7.alloc o).cell? ⟨w.heap.size, 12, none⟩ = some (.int .i64 j.right.2.2.1) := fun o => (ST2.out.below (hxo o)).1 12 _ rfl
                      have nf13 : ∀ o, (w7.alloc o).cell? ⟨w.heap.size, 13, none⟩ = some (.string j.right.2.2.2) := fun o => (ST2.out.below (hxo o)).1 13 _ rfl
                      have nf14 : ∀ o, (w7.alloc o).cell? ⟨w.heap.size, 14, none⟩ = some (.int .i64 j.retry) := fun o => (ST2.out.below (hxo o)).1 14 _ rfl
                      obtain ⟨yx, yy, y0, y1, yl, yc, yr⟩ := T12.out
                      obtain ⟨yxa, yxc, rfl, -⟩ := id yc
                      obtain ⟨yya, yyc, rfl, -⟩ := id yr
                      have yP := Hid.mk (And.intro yc yr)
                      have yq0 : ∀ o, (w7.alloc o).cell? ⟨b12, 0, none⟩ = _ := fun o => ((hxo o).cell (p := ⟨b12, 0, none⟩) yl).trans y0
                      have yq1 : ∀ o, (w7.alloc o).cell? ⟨b12, 1, none⟩ = _ := fun o => ((hxo o).cell (p := ⟨b12, 1, none⟩) yl).trans y1
                      clear y0 y1 yl yc yr
                      go_wp2_with (go_at_call 8; fail)
                      obtain ⟨W3, hWW3⟩ : ∃ z, z = w7.alloc (.cells #[.slice x5a PCV.length x5c, .slice y5a QRV.length y5c] 25) := ⟨_, rfl⟩
                      rw [← hWW3]
                      have hbW3 : Below W2.heap.size W2 W3 := by rw [hWW3]; exact hxo _
                      have hH3 : W3.heap.size = w7.heap.size + 1 := by rw [hWW3]; simp
                      have ST3 := Hid.mk (ST2.out.below hbW3)
                      have T14 := Hid.mk (show TabIs W3 w7.heap.size PCV QRV by rw [hWW3]; exact tab_laid hcn hrn rfl)
                      have T10c := Hid.mk (T10b.out.below hbW3)
                      clear hWW3 hxo hb7 hcn hrn yq0 yq1 nf0 nf1 nf2 nf3 nf4 nf5 nf6 nf7 nf8 nf9 nf10 nf11 nf12 nf13 nf14
                      generalize w7.heap.size = b14 at *
                      refine (HF.out _ _ PCV PRV W3 _ hH3 (yP.out.1.below hbW3) (yP.out.2.below hbW3)).mono ?_
                      rintro e w8 ⟨hres8, hb8⟩
                      have hff : filtNo j.filt (PCV, PRV) = 0 := by rw [← HPCV.out, ← HPRV.out]; exact IM.out.2.1
                      obtain ⟨-, x5, y5, rfl, hcn, hrn⟩ := hres8.resolve_right (fun h => h.1 hff)
                      have hQ3 : PRV.filter (testB PCV j.filt) = QRV := by rw [← HPCV.out, ← HPRV.out, ← HQ2.out]; exact IM.out.2.2.1
                      have HQ3 := Hid.mk hQ3
                      clear hff hQ3
                      rw [HQ3.out] at hrn
                      dsimp only at hrn hcn
                      obtain ⟨x5a, x5c, rfl⟩ := own_slice hcn.1
                      obtain ⟨y5a, y5c, rfl⟩ := rowsNew_slice hrn
                      have hxo : ∀ o, Below W3.heap.size W3 (w8.alloc o) := fun o => bel_box (bel_then (below_box _ _) hb8) o
                      obtain ⟨vx, vy, v0, v1, vl, vc, vr⟩ := T14.out
                      obtain ⟨vxa, vxc, rfl, -⟩ := id vc
                      obtain ⟨vya, vyc, rfl, -⟩ := id vr
                      have vP := Hid.mk (And.intro vc vr)
                      have vq0 : ∀ o, (w8.alloc o).cell? ⟨b14, 0, none⟩ = _ := fun o => ((hxo o).cell (p := ⟨b14, 0, none⟩) vl).trans v0
                      have vq1 : ∀ o, (w8.alloc o).cell? ⟨b14, 1, none⟩ = _ := fun o => ((hxo o).cell (p := ⟨b14, 1, none⟩) vl).trans v1
                      clear v0 v1 vl vc vr
                      go_wp2_with (go_at_call 10; fail)
                      have hsm := rows_small (show rightB PCV QRV = true by rw [← HPCV.out, ← HQ2.out]; exact IM.out.2.2.2)
                      refine (same_any _ _ _ _ PCV QRV _ (vP.out.1.below (hxo _)) (vP.out.2.below (hxo _)) (hcn.is.below (below_box _ _)) (hrn.is.below (below_box _ _)) hsm.1 hsm.2.1 hsm.2.2).mono ?_
                      rintro e V1 ⟨rfl, hb9⟩
                      have hb39 := bel_then (hxo _) hb9
                      have SV1 := Hid.mk (ST3.out.below hb39)
                      have U10 := Hid.mk (T10c.out.below hb39)
                      clear hsm hcn hrn hb9 hb39 hxo vq0 vq1 hb8
                      have ht0 : V1.cell? ⟨w.heap.size + 1, 0, none⟩ = some (.slice va cs.length vcp) := SV1.out.2.2.1
                      have ht1 : V1.cell? ⟨w.heap.size + 1, 1, none⟩ = some (.slice ra rs.length rcp) := SV1.out.2.2.2.1
                      have hu0 : V1.cell? ⟨w.heap.size + 1 + 1, 0, none⟩ = some (.slice va2 cs2.length vcp2) := SV1.out.2.2.2.2.1
                      have hu1 : V1.cell? ⟨w.heap.size + 1 + 1, 1, none⟩ = some (.slice ra2 rs2.length rcp2) := SV1.out.2.2.2.2.2.1
                      go_wp2_with (go_at_call 8; fail)
                      have hV1 : V1.heap.size = V1.heap.size := rfl
                      clear ht0 ht1 hu0 hu1
                      refine (HU.out _ _ _ _ (cs, rs) (cs2, rs2) V1 _ hV1 (HCR.out.1.below SV1.out.2.2.2.2.2.2.2.2) (HCR.out.2.1.below SV1.out.2.2.2.2.2.2.2.2) (HCR.out.2.2.1.below SV1.out.2.2.2.2.2.2.2.2) (HCR.out.2.2.2.1.below SV1.out.2.2.2.2.2.2.2.2)).mono ?_
                      rintro e w7 ⟨hres7, hb7⟩
                      have hxo : ∀ o, Below V1.heap.size V1 (w7.alloc o) := fun o => bel_box (bel_then (below_box _ _) hb7) o
                      have mf0 : ∀ o, (w7.alloc o).cell? ⟨w.heap.size, 0, none⟩ = some (.int .i64 j.at_) := fun o => (SV1.out.below (hxo o)).1 0 _ rfl
                      have mf1 : ∀ o, (w7.alloc o).cell? ⟨w.heap.size, 1, none⟩ = some (.int .i64 1) := fun o => (SV1.out.below (hxo o)).1 1 _ rfl
                      have mf2 : ∀ o, (w7.alloc o).cell? ⟨w.heap.size, 2, none⟩ = some j.outs := fun o => (SV1.out.below (hxo o)).1 2 _ rfl
                      have mf3 : ∀ o, (w7.alloc o).cell? ⟨w.heap.size, 3, none⟩ = some j.ins := fun o => (SV1.out.below (hxo o)).1 3 _ rfl
                      have mf4 : ∀ o, (w7.alloc o).cell? ⟨w.heap.size, 4, none⟩ = some (.slice none 0 0) := fun o => (SV1.out.below (hxo o)).1 4 _ rfl
                      have mf5 : ∀ o, (w7.alloc o).cell? ⟨w.heap.size, 5, none⟩ = some (.string j.op) := fun o => (SV1.out.below (hxo o)).1 5 _ rfl
                      have mf6 : ∀ o, (w7.alloc o).cell? ⟨w.heap.size, 6, none⟩ = some (.string j.left.1) := fun o => (SV1.out.below (hxo o)).1 6 _ rfl
                      have mf7 : ∀ o, (w7.alloc o).cell? ⟨w.heap.size, 7, none⟩ = some (.int .i64 j.left.2.1) := fun o => (SV1.out.below (hxo o)).1 7 _ rfl
                      have mf8 : ∀ o, (w7.alloc o).cell? ⟨w.heap.size, 8, none⟩ = some (.int .i64 j.left.2.2.1) := fun o => (SV1.out.below (hxo o)).1 8 _ rfl
                      have mf9 : ∀ o, (w7.alloc o).cell? ⟨w.heap.size, 9, none⟩ = some (.string j.left.2.2.2) := fun o => (SV1.out.below (hxo o)).1 9 _ rfl
                      have mf10 : ∀ o, (w7.alloc o).cell? ⟨w.heap.size, 10, none⟩ = some (.string j.right.1) := fun o => (SV1.out.below (hxo o)).1 10 _ rfl
                      have mf11 : ∀ o, (w7.alloc o).cell? ⟨w.heap.size, 11, none⟩ = some (.int .i64 j.right.2.1) := fun o => (SV1.out.below (hxo o)).1 11 _ rfl
                      have mf12 : ∀ o, (w7.alloc o).cell? ⟨w.heap.size, 12, none⟩ = some (.int .i64 j.right.2.2.1) := fun o => (SV1.out.below (hxo o)).1 12 _ rfl
                      have mf13 : ∀ o, (w7.alloc o).cell? ⟨w.heap.size, 13, none⟩ = some (.string j.right.2.2.2) := fun o => (SV1.out.below (hxo o)).1 13 _ rfl
                      have mf14 : ∀ o, (w7.alloc o).cell? ⟨w.heap.size, 14, none⟩ = some (.int .i64 j.retry) := fun o => (SV1.out.below (hxo o)).1 14 _ rfl
                      have mu0 : ∀ o, (w7.alloc o).cell? ⟨w.heap.size + 1 + 1, 0, none⟩ = some (.slice va2 cs2.length vcp2) := fun o => (SV1.out.below (hxo o)).2.2.2.2.1
                      have mu1 : ∀ o, (w7.alloc o).cell? ⟨w.heap.size + 1 + 1, 1, none⟩ = some (.slice ra2 rs2.length rcp2) := fun o => (SV1.out.below (hxo o)).2.2.2.2.2.1
                      rcases hres7 with ⟨hokU, x5, y5, rfl, hcn, hrn⟩ | ⟨hnoU, rfl⟩
                      · rw [HURV.out] at hrn
                        dsimp only at hrn hcn
                        obtain ⟨x5a, x5c, rfl⟩ := own_slice hcn.1
                        obtain ⟨y5a, y5c, rfl⟩ := rowsNew_slice hrn
                        go_wp2_with (go_at_call 8; fail)
                        obtain ⟨V2, hWV2⟩ : ∃ z, z = w7.alloc (.cells #[.slice x5a cs.length x5c, .slice y5a URV.length y5c] 25) := ⟨_, rfl⟩
                        rw [← hWV2]
                        have hbV2 : Below V1.heap.size V1 V2 := by rw [hWV2]; exact hxo _
                        have hV2 : V2.heap.size = w7.heap.size + 1 := by rw [hWV2]; simp
                        have SV2 := Hid.mk (SV1.out.below hbV2)
                        have T18 := Hid.mk (show TabIs V2 w7.heap.size cs URV by rw [hWV2]; exact tab_laid hcn hrn rfl)
                        have Y10 := Hid.mk (U10.out.below hbV2)
                        clear hWV2 hxo hb7 hcn hrn mf0 mf1 mf2 mf3 mf4 mf5 mf6 mf7 mf8 mf9 mf10 mf11 mf12 mf13 mf14 mu0 mu1
                        generalize w7.heap.size = b18 at *
                        refine (HF.out _ _ cs2 rs2 V2 _ hV2 (HCR.out.2.2.1.below SV2.out.2.2.2.2.2.2.2.2) (HCR.out.2.2.2.1.below SV2.out.2.2.2.2.2.2.2.2)).mono ?_
                        rintro e w8 ⟨hres8, hb8⟩
                        rcases hres8 with ⟨hokG, x5, y5, rfl, hcn, hrn⟩ | ⟨hnoG, rfl⟩
                        · rw [HGRV.out] at hrn
                          dsimp only at hrn hcn
                          obtain ⟨x5a, x5c, rfl⟩ := own_slice hcn.1
                          obtain ⟨y5a, y5c, rfl⟩ := rowsNew_slice hrn
                          have hxo : ∀ o, Below V2.heap.size V2 (w8.alloc o) := fun o => bel_box (bel_then (below_box _ _) hb8) o
                          have nf0 : ∀ o, (w8.alloc o).cell? ⟨w.heap.size, 0, none⟩ = some (.int .i64 j.at_) := fun o => (SV2.out.below (hxo o)).1 0 _ rfl
                          have nf1 : ∀ o, (w8.alloc o).cell? ⟨w.heap.size, 1, none⟩ = some (.int .i64 1) := fun o => (SV2.out.below (hxo o)).1 1 _ rfl
                          have nf2 : ∀ o, (w8.alloc o).cell? ⟨w.heap.size, 2, none⟩ = some j.outs := fun o => (SV2.out.below (hxo o)).1 2 _ rfl
                          have nf3 : ∀ o, (w8.alloc o).cell? ⟨w.heap.size, 3, none⟩ = some j.ins := fun o => (SV2.out.below (hxo o)).1 3 _ rfl
                          have nf4 : ∀ o, (w8.alloc o).cell? ⟨w.heap.size, 4, none⟩ = some (.slice none 0 0) := fun o => (SV2.out.below (hxo o)).1 4 _ rfl
                          have nf5 : ∀ o, (w8.alloc o).cell? ⟨w.heap.size, 5, none⟩ = some (.string j.op) := fun o => (SV2.out.below (hxo o)).1 5 _ rfl
                          have nf6 : ∀ o, (w8.alloc o).cell? ⟨w.heap.size, 6, none⟩ = some (.string j.left.1) := fun o => (SV2.out.below (hxo o)).1 6 _ rfl
                          have nf7 : ∀ o, (w8.alloc o).cell? ⟨w.heap.size, 7, none⟩ = some (.int .i64 j.left.2.1) := fun o => (SV2.out.below (hxo o)).1 7 _ rfl
                          have nf8 : ∀ o, (w8.alloc o).cell? ⟨w.heap.size, 8, none⟩ = some (.int .i64 j.left.2.2.1) := fun o => (SV2.out.below (hxo o)).1 8 _ rfl
                          have nf9 : ∀ o, (w8.alloc o).cell? ⟨w.heap.size, 9, none⟩ = some (.string j.left.2.2.2) := fun o => (SV2.out.below (hxo o)).1 9 _ rfl
                          have nf10 : ∀ o, (w8.alloc o).cell? ⟨w.heap.size, 10, none⟩ = some (.string j.right.1) := fun o => (SV2.out.below (hxo o)).1 10 _ rfl
                          have nf11 : ∀ o, (w8.alloc o).cell? ⟨w.heap.size, 11, none⟩ = some (.int .i64 j.right.2.1) := fun o => (SV2.out.below (hxo o)).1 11 _ rfl
                          have nf12 : ∀ o, (w8.alloc o).cell? ⟨w.heap.size, 12, none⟩ = some (.int .i64 j.right.2.2.1) := fun o => (SV2.out.below (hxo o)).1 12 _ rfl
                          have nf13 : ∀ o, (w8.alloc o).cell? ⟨w.heap.size, 13, none⟩ = some (.string j.right.2.2.2) := fun o => (SV2.out.below (hxo o)).1 13 _ rfl
                          have nf14 : ∀ o, (w8.alloc o).cell? ⟨w.heap.size, 14, none⟩ = some (.int .i64 j.retry) := fun o => (SV2.out.below (hxo o)).1 14 _ rfl
                          obtain ⟨rx, ry, r0, r1, rl, rc, rr⟩ := T18.out
                          obtain ⟨rxa, rxc, rfl, -⟩ := id rc
                          obtain ⟨rya, ryc, rfl, -⟩ := id rr
                          have rP := Hid.mk (And.intro rc rr)
                          have rq0 : ∀ o, (w8.alloc o).cell? ⟨b18, 0, none⟩ = _ := fun o => ((hxo o).cell (p := ⟨b18, 0, none⟩) rl).trans r0
                          have rq1 : ∀ o, (w8.alloc o).cell? ⟨b18, 1, none⟩ = _ := fun o => ((hxo o).cell (p := ⟨b18, 1, none⟩) rl).trans r1
                          clear r0 r1 rl rc rr
                          go_wp2_with (go_at_call 8; fail)
                          obtain ⟨V3, hWV3⟩ : ∃ z, z = w8.alloc (.cells #[.slice x5a cs2.length x5c, .slice y5a GRV.length y5c] 25) := ⟨_, rfl⟩
                          rw [← hWV3]
                          have hbV3 : Below V2.heap.size V2 V3 := by rw [hWV3]; exact hxo _
                          have hV3 : V3.heap.size = w8.heap.size + 1 := by rw [hWV3]; simp
                          have SV3 := Hid.mk (SV2.out.below hbV3)
                          have T19 := Hid.mk (show TabIs V3 w8.heap.size cs2 GRV by rw [hWV3]; exact tab_laid hcn hrn rfl)
                          have Z10 := Hid.mk (Y10.out.below hbV3)
                          clear hWV3 hxo hb8 hcn hrn rq0 rq1 nf0 nf1 nf2 nf3 nf4 nf5 nf6 nf7 nf8 nf9 nf10 nf11 nf12 nf13 nf14
                          generalize w8.heap.size = b19 at *
                          have TM := Hid.mk (tail_math HFN.out hokU)
                          refine (HF.out _ _ cs URV V3 _ hV3 (rP.out.1.below hbV3) (rP.out.2.below hbV3)).mono ?_
                          rintro e w9 ⟨hres9, hb9⟩
                          have hfu : filtNo j.filt (cs, URV) = 0 := by rw [← HURV.out]; exact TM.out.1
                          obtain ⟨-, x5, y5, rfl, hcn, hrn⟩ := hres9.resolve_right (fun h => h.1 hfu)
                          obtain ⟨ARV, hARV⟩ : ∃ z, rs.filter (testB cs j.filt) ++ rs2.filter (testB cs2 j.filt) = z := ⟨_, rfl⟩
                          have hAE : URV.filter (testB cs j.filt) = ARV := by rw [← HURV.out, ← hARV]; exact TM.out.2.2.1
                          have HARV := Hid.mk hAE
                          have HARW := Hid.mk hARV
                          clear hARV hAE hfu
                          rw [HARV.out] at hrn
                          dsimp only at hrn hcn
                          obtain ⟨x5a, x5c, rfl⟩ := own_slice hcn.1
                          obtain ⟨y5a, y5c, rfl⟩ := rowsNew_slice hrn
                          have hxo : ∀ o, Below V3.heap.size V3 (w9.alloc o) := fun o => bel_box (bel_then (below_box _ _) hb9) o
                          obtain ⟨sx, sy, s0, s1, sl, sc, sr⟩ := Z10.out
                          obtain ⟨sxa, sxc, rfl, -⟩ := id sc
                          obtain ⟨sya, syc, rfl, -⟩ := id sr
                          have sP := Hid.mk (And.intro sc sr)
                          have sq0 : ∀ o, (w9.alloc o).cell? ⟨b10, 0, none⟩ = _ := fun o => ((hxo o).cell (p := ⟨b10, 0, none⟩) sl).trans s0
                          have sq1 : ∀ o, (w9.alloc o).cell? ⟨b10, 1, none⟩ = _ := fun o => ((hxo o).cell (p := ⟨b10, 1, none⟩) sl).trans s1
                          clear s0 s1 sl sc sr
                          obtain ⟨tx, ty, t0, t1, tl, tc, tr⟩ := T19.out
                          obtain ⟨txa, txc, rfl, -⟩ := id tc
                          obtain ⟨tya, tyc, rfl, -⟩ := id tr
                          have tP := Hid.mk (And.intro tc tr)
                          have tq0 : ∀ o, (w9.alloc o).cell? ⟨b19, 0, none⟩ = _ := fun o => ((hxo o).cell (p := ⟨b19, 0, none⟩) tl).trans t0
                          have tq1 : ∀ o, (w9.alloc o).cell? ⟨b19, 1, none⟩ = _ := fun o => ((hxo o).cell (p := ⟨b19, 1, none⟩) tl).trans t1
                          clear t0 t1 tl tc tr
                          go_wp2_with (go_at_call 8; fail)
                          obtain ⟨V4, hWV4⟩ : ∃ z, z = w9.alloc (.cells #[.slice x5a cs.length x5c, .slice y5a ARV.length y5c] 25) := ⟨_, rfl⟩
                          rw [← hWV4]
                          have hbV4 : Below V3.heap.size V3 V4 := by rw [hWV4]; exact hxo _
                          have hV4 : V4.heap.size = w9.heap.size + 1 := by rw [hWV4]; simp
                          have SV4 := Hid.mk (SV3.out.below hbV4)
                          have T21 := Hid.mk (show TabIs V4 w9.heap.size cs ARV by rw [hWV4]; exact tab_laid hcn hrn rfl)
                          clear hWV4 hxo hb9 hcn hrn sq0 sq1 tq0 tq1
                          generalize w9.heap.size = b21 at *
                          refine (HU.out _ _ _ _ (cs, FRV) (cs2, GRV) V4 _ hV4 (sP.out.1.below hbV4) (sP.out.2.below hbV4) (tP.out.1.below hbV4) (tP.out.2.below hbV4)).mono ?_
                          rintro e w10 ⟨hres10, hb10⟩
                          have huu : uniNo (cs, FRV) (cs2, GRV) = 0 := by rw [← HFRV.out, ← HGRV.out]; exact TM.out.2.1
                          obtain ⟨-, x5, y5, rfl, hcn, hrn⟩ := hres10.resolve_right (fun h => h.1 huu)
                          have hFG : FRV ++ GRV = ARV := by rw [← HFRV.out, ← HGRV.out]; exact HARW.out
                          have HFG := Hid.mk hFG
                          clear hFG huu
                          rw [HFG.out] at hrn
                          dsimp only at hrn hcn
                          obtain ⟨x5a, x5c, rfl⟩ := own_slice hcn.1
                          obtain ⟨y5a, y5c, rfl⟩ := rowsNew_slice hrn
                          have hxo : ∀ o, Below V4.heap.size V4 (w10.alloc o) := fun o => bel_box (bel_then (below_box _ _) hb10) o
                          obtain ⟨qx, qy, q0, q1, ql, qc, qr⟩ := T21.out
                          obtain ⟨qxa, qxc, rfl, -⟩ := id qc
                          obtain ⟨qya, qyc, rfl, -⟩ := id qr
                          have qP := Hid.mk (And.intro qc qr)
                          have qq0 : ∀ o, (w10.alloc o).cell? ⟨b21, 0, none⟩ = _ := fun o => ((hxo o).cell (p := ⟨b21, 0, none⟩) ql).trans q0
                          have qq1 : ∀ o, (w10.alloc o).cell? ⟨b21, 1, none⟩ = _ := fun o => ((hxo o).cell (p := ⟨b21, 1, none⟩) ql).trans q1
                          clear q0 q1 ql qc qr
                          go_wp2_with (go_at_call 10; fail)
                          have hsm := rows_small (show rightB cs ARV = true by rw [← HARW.out]; exact TM.out.2.2.2)
                          refine (same_any _ _ _ _ cs ARV _ (qP.out.1.below (hxo _)) (qP.out.2.below (hxo _)) (hcn.is.below (below_box _ _)) (hrn.is.below (below_box _ _)) hsm.1 hsm.2.1 hsm.2.2).mono ?_
                          rintro e w11 ⟨rfl, hb11⟩
                          have HB11 := Hid.mk (bel_then (bel_then SV4.out.2.2.2.2.2.2.2.2 (hxo _)) hb11)
                          clear hsm hcn hrn hb11 hxo qq0 qq1
                          go_wp2
                          go_ret
                          exact ⟨rfl, HB11.out⟩
                        · exact absurd HXX.out.2 hnoG
                      · exact absurd HXX.out.1 hnoU
                    · exact absurd HCC.out.2 hR0
              · exact absurd HPN.out hnoP
            · exact absurd HFN.out hnoF
          · go_wp2
            go_ret
            exact ⟨rfl, HB3.out.2⟩
        · have h8' : (8 : Int) < (ss.length : Int) := by omega
          clear h8
          go_wp2
          go_ret
          exact ⟨rfl, HB3.out.2⟩
end Go.Proofs.YtlpomofaeeaneaaGreatDoor
