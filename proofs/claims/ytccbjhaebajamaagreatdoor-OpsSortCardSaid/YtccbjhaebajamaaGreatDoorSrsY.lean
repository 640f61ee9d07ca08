import Derived.Test.YtccbjhaebajamaaGreatDoorSrsM
import Derived.Deep.Cut
set_option linter.unusedSimpArgs false
set_option linter.unusedVariables false
namespace Go.Proofs.YtccbjhaebajamaaGreatDoor
open Go.RowKit
open Go.Sort (grow)

set_option maxRecDepth 100000 in
set_option maxHeartbeats 12800000 in
theorem sorts_okn (cv : Value) (ss : List ByteArray) (j : Jb) (js : List ByteArray) (vc vr : Value) (cs : List Cl) (rs : List (List Vl)) (w : World) (hss : StrsIs w cv ss) (hsc : StrsC w cv ss) (hjs : StrsIs w j.cols js) (hjl : js.length ≤ maxLen) (hsz : j.sized) (hc : ColsIs w vc cs) (hr : RowsIs w vr rs) (hE : Env w) (hYY : projNo (cs, rs) ss = 0 ∧ ¬ filtNo j.fil (cs, rs) = 0) :
    Calls Tryz.prog 5 #[cv, .agg j.cells, .agg #[vc, vr]] w fun e w' => e = .returned (.bool true) ∧ Below w.heap.size w w' := by
  have mixed : Tryz.prog.follows .mixedOrders = true := by kernel_rfl
  have hmf : ∀ (fn : Fn) (first cap : Array Value) (w : World), (Instr.makeFunc fn first cap).run Tryz.prog w = .ok (.func fn first cap) w := fun _ _ _ _ => rfl
  have HSH := Hid.mk (fun W (hW : Below w.heap.size w W) => short_any j js W (hjs.below hW) hsz hjl)
  have HS1 := Hid.mk (fun W (hW : Below w.heap.size w W) => small_any vc vr cs rs W (hc.below hW) (hr.below hW))
  have HCF := Hid.mk (fun W (hW : Below w.heap.size w W) (h8 : ss.length ≤ 100) => hasS1_is cv ss W (hss.below hW) h8)
  have HDN := Hid.mk (fun W (hW : Below w.heap.size w W) => done_any W (hE.below hW))
  have hx : j.fil.right.2.2.2.size ≤ maxLen := hsz.2.2.2.2
  have hF' := fun (xc xr : Value) (ds : List Cl) (qs : List (List Vl)) (W : World) (H : Nat) (hH : W.heap.size = H) (h1 : ColsIs W xc ds) (h2 : RowsIs W xr qs) => one_filt j.fil xc xr ds qs W H hH h1 h2 rfl hx
  have hS' := fun (xc xr : Value) (ds : List Cl) (qs : List (List Vl)) (W : World) (H : Nat) (hW : Below w.heap.size w W) (hH : W.heap.size = H) (h1 : ColsIs W xc ds) (h2 : RowsIs W xr qs) => one_sort (jSrt cv) ss xc xr ds qs W H hH h1 h2 rfl (hsc.below hW)
  have HCR := Hid.mk (And.intro hc (And.intro hr hsc))
  have HYY := Hid.mk hYY
  clear hYY
  have hJ0 : JobAt (((w.alloc (.cells #[cv] 30)).alloc (.cells j.cells 36)).alloc (.cells #[vc, vr] 25)) (w.heap.size + 1) j := by
    have := (job_new (w.alloc (.cells #[cv] 30)) j 36).below (below_box _ (.cells #[vc, vr] 25)) (by simp)
    simpa using this
  have hF0 : JobFree (((w.alloc (.cells #[cv] 30)).alloc (.cells j.cells 36)).alloc (.cells #[vc, vr] 25)) (w.heap.size + 1) := by
    have := (JobFree.new (w.alloc (.cells #[cv] 30)) (.cells j.cells 36) _ _ rfl).below (below_box _ (.cells #[vc, vr] 25)) (by simp)
    simpa using this
  obtain ⟨va, vcp, rfl, -⟩ := hc
  obtain ⟨ra, rcp, rfl, -⟩ := hr
  obtain ⟨cva, cvc, rfl, hcvl, hcml, -⟩ := hsc
  have HF : Hid (∀ (xc xr : Value) (ds : List Cl) (qs : List (List Vl)) (W : World) (H : Nat), W.heap.size = H → ColsIs W xc ds → RowsIs W xr qs → Calls Tryz.prog 9 #[.agg #[.int .i64 j.at_, .int .i64 1, j.outs, j.ins, j.cols, .string j.op, .string j.left.1, .int .i64 j.left.2.1, .int .i64 j.left.2.2.1, .string j.left.2.2.2, .string j.right.1, .int .i64 j.right.2.1, .int .i64 j.right.2.2.1, .string j.right.2.2.2, .int .i64 j.retry], .slice (some ⟨H, 0, none⟩) 1 1] (W.alloc (.cells #[xc, xr] 25)) fun e w' => OneRes e w' W.heap.size (filtNo j.fil (ds, qs) = 0) (ds, qs.filter (testB ds j.fil)) ∧ Below (W.alloc (.cells #[xc, xr] 25)).heap.size (W.alloc (.cells #[xc, xr] 25)) w') := Hid.mk hF'
  have HSO : Hid (∀ (xc xr : Value) (ds : List Cl) (qs : List (List Vl)) (W : World) (H : Nat), Below w.heap.size w W → W.heap.size = H → ColsIs W xc ds → RowsIs W xr qs → Calls Tryz.prog 9 #[.agg #[.int .i64 0, .int .i64 4, .slice none 0 0, .slice none 0 0, .slice cva ss.length cvc, .string ⟨#[]⟩, .string ⟨#[]⟩, .int .i64 0, .int .i64 0, .string ⟨#[]⟩, .string ⟨#[]⟩, .int .i64 0, .int .i64 0, .string ⟨#[]⟩, .int .i64 0], .slice (some ⟨H, 0, none⟩) 1 1] (W.alloc (.cells #[xc, xr] 25)) fun e w' => OneRes e w' W.heap.size (projNo (ds, qs) ss = 0) (ds, sortR (placesN ds ss) qs) ∧ Below (W.alloc (.cells #[xc, xr] 25)).heap.size (W.alloc (.cells #[xc, xr] 25)) w') := Hid.mk hS'
  clear hF' hS'
  unfold Jb.cells at HSH hJ0 hF0 ⊢
  have HJ0 := Hid.mk (And.intro hJ0 hF0)
  have HN := Hid.mk hcml
  unfold maxLen at hcml
  clear hJ0 hF0 hjs hjl hsz hE hss hx hcvl
  go_enter Tryz.func5, Tryz.ntmps5
  go_wp2_with fail
  refine (HSH.out _ (bel_box (bel_box (below_box _ _) _) _)).mono ?_
  rintro e w1 ⟨⟨bb, rfl⟩, hb1⟩
  have hb01 := bel_then (bel_box (bel_box (below_box _ _) _) _) hb1
  have hJ1 := HJ0.out.1.below hb1 (by simp)
  have hF1 := HJ0.out.2.below hb1 (by simp)
  have s0 : w1.cell? ⟨w.heap.size, 0, none⟩ = some (.slice cva ss.length cvc) := (hb1.cell (p := ⟨w.heap.size, 0, none⟩) (by simp; omega)).trans (((below_box _ _).cell (p := ⟨w.heap.size, 0, none⟩) (by simp; omega)).trans (((below_box _ _).cell (p := ⟨w.heap.size, 0, none⟩) (by simp)).trans (by rw [World.cell?_alloc_at _ _ _ _ rfl]; rfl)))
  have s2 : w1.cell? ⟨w.heap.size + 1 + 1, 0, none⟩ = some (.slice va cs.length vcp) := (hb1.cell (p := ⟨w.heap.size + 1 + 1, 0, none⟩) (by simp)).trans (by rw [World.cell?_alloc_at _ _ _ _ (by simp)]; rfl)
  have s3 : w1.cell? ⟨w.heap.size + 1 + 1, 1, none⟩ = some (.slice ra rs.length rcp) := (hb1.cell (p := ⟨w.heap.size + 1 + 1, 1, none⟩) (by simp)).trans (by rw [World.cell?_alloc_at _ _ _ _ (by simp)]; rfl)
  have hz1 : w.heap.size + 1 + 1 < w1.heap.size := by have := hb1.size; simp at this; omega
  have H1 := Hid.mk (And.intro hJ1 (And.intro hF1 hb01))
  clear hb1 hb01 hJ1 hF1 HJ0
  cases bb
  · go_wp2
    go_ret
    exact ⟨rfl, H1.out.2.2⟩
  · go_wp2_with fail
    refine (HS1.out _ H1.out.2.2).mono ?_
    rintro e w2 ⟨rfl, hb2⟩
    have r0 := (hb2.cell (p := ⟨w.heap.size, 0, none⟩) (by show w.heap.size < _; omega)).trans s0
    have HB2 := Hid.mk (And.intro hb2 (bel_then H1.out.2.2 hb2))
    clear hb2
    generalize smallB cs rs = g1 at *
    cases g1
    · go_wp2
      go_ret
      exact ⟨rfl, HB2.out.2⟩
    · by_cases h8 : ss.length ≤ 8
      · have h8' : ¬ ((8 : Int) < (ss.length : Int)) := by omega
        have HH8 := Hid.mk h8
        clear h8
        go_wp2_with fail
        refine (HCF.out _ HB2.out.2 (by have := HH8.out; omega)).mono ?_
        rintro e w3' ⟨⟨bb, rfl⟩, rfl⟩
        cases bb
        · go_wp2_with (go_at_call 8; fail)
          refine (HDN.out _ HB2.out.2).mono ?_
          rintro e w4 ⟨rfl, hb4⟩
          have hb14 := bel_then HB2.out.1 hb4
          have hz4 : w.heap.size + 1 + 1 < w4.heap.size := by have := hb14.size; omega
          have k0 := (hb14.cell (p := ⟨w.heap.size, 0, none⟩) (by show w.heap.size < _; omega)).trans s0
          have k2 := (hb14.cell (p := ⟨w.heap.size + 1 + 1, 0, none⟩) hz1).trans s2
          have k3 := (hb14.cell (p := ⟨w.heap.size + 1 + 1, 1, none⟩) hz1).trans s3
          have H4 := Hid.mk (And.intro (H1.out.1.below hb14 (by omega)) (And.intro (H1.out.2.1.below hb14 (by omega)) (bel_then HB2.out.2 hb4)))
          clear hb4 hb14 s0 s2 s3 r0 hz1 H1 HB2 HCF HDN HS1 HSH
          go_wp2_with (go_at_call 9; fail)
          obtain ⟨W0, hW0⟩ : ∃ x, x = w4.alloc (.cells #[.int .i64 0, .int .i64 4, .slice none 0 0, .slice none 0 0, .slice cva ss.length cvc, .string ⟨#[]⟩, .string ⟨#[]⟩, .int .i64 0, .int .i64 0, .string ⟨#[]⟩, .string ⟨#[]⟩, .int .i64 0, .int .i64 0, .string ⟨#[]⟩, .int .i64 0] 36) := ⟨_, rfl⟩
          rw [← hW0]
          have hB0 : Below w4.heap.size w4 W0 := by rw [hW0]; exact below_box _ _
          have hH0 : W0.heap.size = w4.heap.size + 1 := by rw [hW0]; simp
          have hST : SttS w W0 w4.heap.size j (.slice cva ss.length cvc) (.slice va cs.length vcp) (.slice ra rs.length rcp) := ⟨(hB0.cell (p := ⟨w.heap.size, 0, none⟩) (by show w.heap.size < _; omega)).trans k0, H4.out.1.below hB0 (by omega), H4.out.2.1.below hB0 (by omega), (hB0.cell (p := ⟨w.heap.size + 1 + 1, 0, none⟩) hz4).trans k2, (hB0.cell (p := ⟨w.heap.size + 1 + 1, 1, none⟩) hz4).trans k3, by rw [hW0]; exact job_new w4 (jSrt (.slice cva ss.length cvc)) _, by omega, by omega, bel_then H4.out.2.2 hB0⟩
          have ST0 := Hid.mk hST
          clear hW0 hB0 hST k0 k2 k3 H4
          have hb7 : w.heap.size + 1 < w4.heap.size := by omega
          clear hz4
          generalize w4.heap.size = b7 at *
          refine (HSO.out _ _ cs rs W0 _ ST0.out.2.2.2.2.2.2.2.2 hH0 (HCR.out.1.below ST0.out.2.2.2.2.2.2.2.2) (HCR.out.2.1.below ST0.out.2.2.2.2.2.2.2.2)).mono ?_
          rintro e w5 ⟨hres, HB⟩
          have HPP := Hid.mk (projNo_0 HYY.out.1)
          obtain ⟨K0, KS, nm, ss', HK⟩ : ∃ k ks nm ss', Hid (placesN cs ss = k :: ks ∧ ss = nm :: ss' ∧ placeI cs nm.data.toList = (k : Int) ∧ k < cs.length) := by
            obtain ⟨k, ks, nm, ss', h⟩ := sort_first HPP.out.2
            exact ⟨k, ks, nm, ss', Hid.mk h⟩
          obtain ⟨SRV, hSRV⟩ : ∃ z, sortR (placesN cs ss) rs = z := ⟨_, rfl⟩
          have HSRV := Hid.mk hSRV
          clear hSRV
          have HSR := Hid.mk (show rightB cs SRV = true ∧ SRV.length = rs.length ∧ sortR (placesN cs ss) SRV = SRV by rw [← HSRV.out]; exact ⟨sort_right _ HPP.out.1, sortR_len _ _, sort_twice _ _⟩)
          have HLN := Hid.mk (right_len HPP.out.1)
          have HLS := Hid.mk (right_len HSR.out.1)
          have hxo : ∀ o, Below W0.heap.size W0 (w5.alloc o) := fun o => bel_box (bel_then (below_box _ _) HB) o
          have gp0 : ∀ o, (w5.alloc o).cell? ⟨b7, 0, none⟩ = some (.int .i64 0) := fun o => (ST0.out.below (hxo o)).2.2.2.2.2.1 0 _ rfl
          have gp1 : ∀ o, (w5.alloc o).cell? ⟨b7, 1, none⟩ = some (.int .i64 4) := fun o => (ST0.out.below (hxo o)).2.2.2.2.2.1 1 _ rfl
          have gp2 : ∀ o, (w5.alloc o).cell? ⟨b7, 2, none⟩ = some (.slice none 0 0) := fun o => (ST0.out.below (hxo o)).2.2.2.2.2.1 2 _ rfl
          have gp3 : ∀ o, (w5.alloc o).cell? ⟨b7, 3, none⟩ = some (.slice none 0 0) := fun o => (ST0.out.below (hxo o)).2.2.2.2.2.1 3 _ rfl
          have gp4 : ∀ o, (w5.alloc o).cell? ⟨b7, 4, none⟩ = some (.slice cva ss.length cvc) := fun o => (ST0.out.below (hxo o)).2.2.2.2.2.1 4 _ rfl
          have gp5 : ∀ o, (w5.alloc o).cell? ⟨b7, 5, none⟩ = some (.string ⟨#[]⟩) := fun o => (ST0.out.below (hxo o)).2.2.2.2.2.1 5 _ rfl
          have gp6 : ∀ o, (w5.alloc o).cell? ⟨b7, 6, none⟩ = some (.string ⟨#[]⟩) := fun o => (ST0.out.below (hxo o)).2.2.2.2.2.1 6 _ rfl
          have gp7 : ∀ o, (w5.alloc o).cell? ⟨b7, 7, none⟩ = some (.int .i64 0) := fun o => (ST0.out.below (hxo o)).2.2.2.2.2.1 7 _ rfl
          have gp8 : ∀ o, (w5.alloc o).cell? ⟨b7, 8, none⟩ = some (.int .i64 0) := fun o => (ST0.out.below (hxo o)).2.2.2.2.2.1 8 _ rfl
          have gp9 : ∀ o, (w5.alloc o).cell? ⟨b7, 9, none⟩ = some (.string ⟨#[]⟩) := fun o => (ST0.out.below (hxo o)).2.2.2.2.2.1 9 _ rfl
          have gp10 : ∀ o, (w5.alloc o).cell? ⟨b7, 10, none⟩ = some (.string ⟨#[]⟩) := fun o => (ST0.out.below (hxo o)).2.2.2.2.2.1 10 _ rfl
          have gp11 : ∀ o, (w5.alloc o).cell? ⟨b7, 11, none⟩ = some (.int .i64 0) := fun o => (ST0.out.below (hxo o)).2.2.2.2.2.1 11 _ rfl
          have gp12 : ∀ o, (w5.alloc o).cell? ⟨b7, 12, none⟩ = some (.int .i64 0) := fun o => (ST0.out.below (hxo o)).2.2.2.2.2.1 12 _ rfl
          have gp13 : ∀ o, (w5.alloc o).cell? ⟨b7, 13, none⟩ = some (.string ⟨#[]⟩) := fun o => (ST0.out.below (hxo o)).2.2.2.2.2.1 13 _ rfl
          have gp14 : ∀ o, (w5.alloc o).cell? ⟨b7, 14, none⟩ = some (.int .i64 0) := fun o => (ST0.out.below (hxo o)).2.2.2.2.2.1 14 _ rfl
          obtain ⟨-, x5, y5, rfl, hcn, hrn⟩ := hres.resolve_right (fun h => h.1 HYY.out.1)
          rw [HSRV.out] at hrn
          dsimp only at hrn hcn
          obtain ⟨x5a, x5c, rfl⟩ := own_slice hcn.1
          obtain ⟨y5a, y5c, rfl⟩ := rowsNew_slice hrn
          go_wp2_with (go_at_call 9; fail)
          obtain ⟨W1, hWW1⟩ : ∃ z, z = w5.alloc (.cells #[.slice x5a cs.length x5c, .slice y5a SRV.length y5c] 25) := ⟨_, rfl⟩
          rw [← hWW1]
          have hbW1 : Below W0.heap.size W0 W1 := by rw [hWW1]; exact hxo _
          have hH1 : W1.heap.size = w5.heap.size + 1 := by rw [hWW1]; simp
          have ST1 := Hid.mk (ST0.out.below hbW1)
          have hcw : ColsIs W1 (.slice x5a cs.length x5c) cs := by rw [hWW1]; exact hcn.is.below (below_box _ _)
          have hrw : RowsIs W1 (.slice y5a SRV.length y5c) SRV := by rw [hWW1]; exact hrn.is.below (below_box _ _)
          have T8 := Hid.mk (show TabN W1 W0.heap.size w5.heap.size cs SRV by rw [hWW1]; exact tabN_laid hcn hrn rfl)
          have HCW := Hid.mk (And.intro hcw hrw)
          have hlob8 : W0.heap.size ≤ w5.heap.size := by have := HB.size; simp at this; omega
          clear hWW1 hxo HB hcn hrn hcw hrw gp0 gp1 gp2 gp3 gp4 gp5 gp6 gp7 gp8 gp9 gp10 gp11 gp12 gp13 gp14
          generalize w5.heap.size = b8 at *
          have HP1 := Hid.mk (show projNo (cs, SRV) ss = 0 by unfold projNo; rw [if_neg (by rw [HSR.out.1]; decide)]; exact HPP.out.2)
          refine (HSO.out _ _ cs SRV W1 _ ST1.out.2.2.2.2.2.2.2.2 hH1 HCW.out.1 HCW.out.2).mono ?_
          rintro e w6 ⟨hres, HB⟩
          have hxo : ∀ o, Below W1.heap.size W1 (w6.alloc o) := fun o => bel_box (bel_then (below_box _ _) HB) o
          obtain ⟨-, x5, y5, rfl, hcn, hrn⟩ := hres.resolve_right (fun h => h.1 HP1.out)
          rw [HSR.out.2.2] at hrn
          dsimp only at hrn hcn
          obtain ⟨x5a, x5c, rfl⟩ := own_slice hcn.1
          obtain ⟨y5a, y5c, rfl⟩ := rowsNew_slice hrn
          clear HCW
          obtain ⟨px, py, p0, p1, pl, pc, pr⟩ := T8.out.is
          obtain ⟨pxa, pxc, rfl, -⟩ := id pc
          obtain ⟨pya, pyc, rfl, -⟩ := id pr
          have pP := Hid.mk (And.intro pc pr)
          have pq0 : ∀ o, (w6.alloc o).cell? ⟨b8, 0, none⟩ = _ := fun o => ((hxo o).cell (p := ⟨b8, 0, none⟩) pl).trans p0
          have pq1 : ∀ o, (w6.alloc o).cell? ⟨b8, 1, none⟩ = _ := fun o => ((hxo o).cell (p := ⟨b8, 1, none⟩) pl).trans p1
          clear p0 p1 pl pc pr
          go_wp2_with (go_at_call 11; fail)
          have hsd := rows_small HSR.out.1
          obtain ⟨W2, hWW2⟩ : ∃ z, z = w6.alloc (.cells #[.slice x5a cs.length x5c, .slice y5a SRV.length y5c] 25) := ⟨_, rfl⟩
          rw [← hWW2]
          have hbW2 : Below W1.heap.size W1 W2 := by rw [hWW2]; exact hxo _
          have hH2 : W2.heap.size = w6.heap.size + 1 := by rw [hWW2]; simp
          have ST2 := Hid.mk (ST1.out.below hbW2)
          have hcw : ColsIs W2 (.slice x5a cs.length x5c) cs := by rw [hWW2]; exact hcn.is.below (below_box _ _)
          have hrw : RowsIs W2 (.slice y5a SRV.length y5c) SRV := by rw [hWW2]; exact hrn.is.below (below_box _ _)
          have T10 := Hid.mk (show TabN W2 W1.heap.size w6.heap.size cs SRV by rw [hWW2]; exact tabN_laid hcn hrn rfl)
          have HCW := Hid.mk (And.intro hcw hrw)
          have hlob10 : W1.heap.size ≤ w6.heap.size := by have := HB.size; simp at this; omega
          have T8b := Hid.mk (T8.out.below hbW2)
          clear hWW2 hxo HB hcn hrn hcw hrw pq0 pq1 hH1 T8
          generalize w6.heap.size = b10 at *
          refine (same_any _ _ _ _ cs SRV _ HCW.out.1 HCW.out.2 (pP.out.1.below hbW2) (pP.out.2.below hbW2) hsd.1 hsd.2.1 hsd.2.2).mono ?_
          rintro e W3 ⟨rfl, hb9⟩
          have ST3 := Hid.mk (ST2.out.below hb9)
          have T8c := Hid.mk (T8b.out.below hb9)
          have hs3 := hb9.size
          clear hb9 HCW pP hbW2 T10 T8b ST2 hH2 hlob10 hsd ST1 hbW1 ST0
          have hc : W3.cell? ⟨w.heap.size, 0, none⟩ = some (.slice cva ss.length cvc) := ST3.out.1
          have ht0 : W3.cell? ⟨w.heap.size + 1 + 1, 0, none⟩ = some (.slice va cs.length vcp) := ST3.out.2.2.2.1
          have ht1 : W3.cell? ⟨w.heap.size + 1 + 1, 1, none⟩ = some (.slice ra rs.length rcp) := ST3.out.2.2.2.2.1
          obtain ⟨qx, qy, q0, q1, ql, qc, qr⟩ := T8c.out.is
          obtain ⟨qxa, qxc, rfl, -⟩ := id qc
          obtain ⟨qya, qyc, rfl, -⟩ := id qr
          have qP := Hid.mk (And.intro qc qr)
          clear qc qr
          have hne : ((SRV.length : Int) != (rs.length : Int)) = false := by rw [HSR.out.2.1]; simp
          have hnl : (SRV.length : Int) = (rs.length : Int) := by rw [HSR.out.2.1]
          obtain ⟨cb, co, hva, hcl, hat⟩ : ∃ b o, va = some ⟨b, o, none⟩ ∧ b < w.heap.size ∧ ColsAt w b o cs := by
            obtain ⟨a', c', he, -, -, hor⟩ := HCR.out.1
            rcases hor with hor | ⟨b, o, ha, hbl, hat⟩
            · have := HLN.out.1; rw [hor] at this; simp at this
            · simp only [Value.slice.injEq] at he
              exact ⟨b, o, he.1.trans ha, hbl, hat⟩
          subst hva
          obtain ⟨nb, no, hcva, hnbl, hn0⟩ : ∃ b o, cva = some ⟨b, o, none⟩ ∧ b < w.heap.size ∧ w.cell? ⟨b, o, none⟩ = some (.string nm) := by
            obtain ⟨a', c', he, -, -, hor⟩ := HCR.out.2.2
            rcases hor with hor | ⟨b, o, ha, hbl, hat⟩
            · rw [hor] at HK; exact absurd HK.out.2.1 (by simp)
            · simp only [Value.slice.injEq] at he
              have h0 := hat 0 (by rw [HK.out.2.1]; simp)
              have h1 : ss[0]'(by rw [HK.out.2.1]; simp) = nm := by simp [HK.out.2.1]
              rw [h1] at h0
              exact ⟨b, o, he.1.trans ha, hbl, h0⟩
          subst hcva
          have HIX := Hid.mk (indexSort_in cb co cs.length vcp cs nm w.heap.size nb no ss.length cvc W3 rfl (by have := HLN.out; omega) (by have := ST3.out.2.2.2.2.2.2.1; omega) (hat.below ST3.out.2.2.2.2.2.2.2.2 hcl) hc (by have := ST3.out.2.2.2.2.2.2.1; omega) ((ST3.out.2.2.2.2.2.2.2.2.cell (p := ⟨nb, no, none⟩) hnbl).trans hn0) (by have := ST3.out.2.2.2.2.2.2.1; omega) (by rw [HK.out.2.1]; simp))
          rw [HK.out.2.2.1] at HIX
          have HAT := Hid.mk hat
          clear hat hn0
          go_wp2_with (go_at_call 17; fail)
          refine HIX.out.mono ?_
          rintro e W4 ⟨rfl, hb4⟩
          have ST4 := Hid.mk (ST3.out.below hb4)
          have T8d := Hid.mk (T8c.out.below hb4)
          clear hc ht0 ht1 q0 q1 ql qP HIX ST3 T8c hb4 hne hnl HAT
          have hk0 : ¬ ((K0 : Int) < 0) := by omega
          have hkd : decide ((K0 : Int) < 0) = false := decide_eq_false hk0
          have HKZ := Hid.mk HK.out.2.2.2
          go_wp2
          go_loopg [12] (SRV.length + 1) (fun g1 vi wr => ∃ i : Nat, vi = .int .i64 i ∧ 1 ≤ i ∧ i ≤ SRV.length + 1 ∧ SRV.length + 1 - i ≤ g1 ∧ Aside (Below W4.heap.size W4 wr))
          case atStart => exact ⟨1, rfl, Nat.le_refl _, by omega, by omega, Below.refl _ _⟩
          case round =>
            obtain ⟨i, rfl, hi1, hil, hg, HBW⟩ := hrel
            have T8e := Hid.mk (T8d.out.below HBW.out)
            have ST5 := Hid.mk (ST4.out.below HBW.out)
            have hSL := HLS.out.2.2.1
            obtain ⟨qx, qy, q0, q1, ql, qc, qr⟩ := T8e.out.is
            obtain ⟨qxa, qxc, rfl, -⟩ := id qc
            obtain ⟨qya, qyc, rfl, -⟩ := id qr
            have qP := Hid.mk (And.intro qc qr)
            clear qc qr
            by_cases hlt : i < SRV.length
            · as_aux_lemma =>
                have hltz : (i : Int) < (SRV.length : Int) := by omega
                obtain ⟨ip, hip⟩ : ∃ q, q + 1 = i := ⟨i - 1, by omega⟩
                obtain ⟨rb, ro, rc, hqv, hrbl, hrat⟩ := rowsS_at qP.out.2 (by omega)
                simp only [Value.slice.injEq, true_and] at hqv
                obtain ⟨rfl, rfl⟩ := hqv
                have hm := HLS.out.2.2.2
                obtain ⟨xb, xo, xc, hx, hxl, hxat⟩ := row_at hrat hlt (hm _ (List.getElem_mem hlt)) HLS.out.1
                obtain ⟨yb, yo, yc, hy, hyl, hyat⟩ := row_at hrat (show ip < SRV.length by omega) (hm _ (List.getElem_mem (by omega))) HLS.out.1
                have hkx : K0 < SRV[i].length := by rw [hm _ (List.getElem_mem hlt)]; exact HKZ.out
                have hky : K0 < (SRV[ip]'(by omega)).length := by rw [hm _ (List.getElem_mem (by omega))]; exact HKZ.out
                obtain ⟨e0, e1, e2⟩ := hxat K0 hkx
                obtain ⟨f0, f1, f2⟩ := hyat K0 hky
                have hles : lessV (SRV[i][K0]) ((SRV[ip]'(by omega))[K0]) = false := by
                  have h := sort_step (k := K0) (ks := KS) (rs := rs) ip (by rw [← HK.out.1, HSRV.out, hip]; exact hlt)
                  simp only [← HK.out.1, HSRV.out, hip] at h
                  rw [vAt_of hkx, vAt_of hky] at h
                  exact h
                generalize SRV[i][K0] = a at *
                generalize (SRV[ip]'(by omega))[K0] = b at *
                have LG : Aside (∀ W : World, Calls Tryz.prog 19 #[.agg #[.int .i64 a.1, .int .i64 a.2.1, .string a.2.2], .agg #[.int .i64 b.1, .int .i64 b.2.1, .string b.2.2]] W fun e w' => e = .returned (.bool false) ∧ ∃ q os', w' = grow (W.drewN q) os') := fun W => by have := less_grown a b W; rw [hles] at this; exact this
                obtain ⟨iN, hiN⟩ : ∃ q, q = i := ⟨_, rfl⟩
                obtain ⟨jN, hjN⟩ : ∃ q, q = ip := ⟨_, rfl⟩
                rw [← hiN] at hx
                rw [← hjN] at hy
                have zip : (i : Int) = (ip : Int) + 1 := by omega
                have ea : ((ip : Int) + 1).toNat = iN := by omega
                have ec : ((ip : Int)).toNat = jN := by omega
                have pa : (0 : Int) ≤ (ip : Int) + 1 := by omega
                have ra : IntKind.i64.wrap ((ip : Int) + 1) = (ip : Int) + 1 := by rw [IntKind.wrap_i64]; omega
                have pc : (0 : Int) ≤ (ip : Int) := by omega
                have rc' : IntKind.i64.wrap ((ip : Int)) = (ip : Int) := by rw [IntKind.wrap_i64]; omega
                have ba : (ip : Int) + 1 < (SRV.length : Int) := by omega
                have bc : (ip : Int) < (SRV.length : Int) := by omega
                have hk6 : (K0 : Int) < (cs.length : Int) := by have := HKZ.out; omega
                have h6 := HLS.out.2.1
                have X0 := cell_grown (by exact ql) q1
                have X1 := cell_grown (by exact hrbl) hx
                have X2 := cell_grown (by exact hrbl) hy
                have E0 := cell_grown (by exact hxl) e0
                have E1 := cell_grown (by exact hxl) e1
                have E2 := cell_grown (by exact hxl) e2
                have F0 := cell_grown (by exact hyl) f0
                have F1 := cell_grown (by exact hyl) f1
                have F2 := cell_grown (by exact hyl) f2
                clear hx hy e0 e1 e2 f0 f1 f2 hxat hyat hrat hm hles hkx hky hiN hjN q0 hxl hyl hrbl ql
                go_wp2_with fail
                try simp only [zip]
                go_quiet_grown (first | (go_at_call 19; refine Calls.grown_of (LG.out _)))
                have HB6 : Aside (Below W4.heap.size W4 (grow (wr.drewN nq) osq)) := bel_then HBW.out (below_growN _ _ _)
                clear X0 X1 X2 E0 E1 E2 F0 F1 F2 LG q1 ea ec
                generalize grow (wr.drewN nq) osq = w6 at HB6 ⊢
                clear nq osq
                go_wp2
                go_roundg (SRV.length + 1 - (i + 1))
                case measure => omega
                case rel => exact ⟨i + 1, by first | go_num | (congr 1; omega), by omega, by omega, Nat.le_refl _, HB6⟩
            · have hltz : ¬ ((i : Int) < (SRV.length : Int)) := by omega
              go_wp2
              clear q0 q1 ql qP hlt hltz hi1 hil hg HBW T8d
              obtain ⟨W5, hW5⟩ : ∃ x, x = wr.alloc (.cells #[.int .i64 0] 3) := ⟨_, rfl⟩
              rw [← hW5]
              have hB5 : Below wr.heap.size wr W5 := by rw [hW5]; exact below_box _ _
              have ST6 := Hid.mk (ST5.out.below hB5)
              have T8f := Hid.mk (T8e.out.below hB5)
              have hW5s : W5.heap.size = wr.heap.size + 1 := by rw [hW5]; simp
              have hW5c : W5.cell? ⟨wr.heap.size, 0, none⟩ = some (.int .i64 0) := by rw [hW5]; simp
              have HI0 : Aside (W5.cell? ⟨wr.heap.size, 0, none⟩ = some (.int .i64 0)) := hW5c
              clear hB5 T8e ST5 ST4 hW5 hW5c
              generalize wr.heap.size = ib0 at *
              go_loopg [13] rs.length (fun g2 vi wr => ∃ i ib : Nat, vi = .pointer (some ⟨ib, 0, none⟩) ∧ i ≤ rs.length ∧ rs.length - i ≤ g2 ∧ ib < wr.heap.size ∧ Aside (wr.cell? ⟨ib, 0, none⟩ = some (.int .i64 i) ∧ Below W5.heap.size W5 wr))
              case atStart => exact ⟨0, ib0, rfl, Nat.zero_le _, by omega, by omega, HI0.out, Below.refl _ _⟩
              case round =>
                clear HI0
                obtain ⟨i, ib, rfl, hil, hg2, hib, HI⟩ := hrel
                have T8g := Hid.mk (T8f.out.below HI.out.2)
                have ST7 := Hid.mk (ST6.out.below HI.out.2)
                have c0 := HI.out.1
                have hrl := HLN.out.2.2.1
                have ht0 : wr.cell? ⟨w.heap.size + 1 + 1, 0, none⟩ = some (.slice (some ⟨cb, co, none⟩) cs.length vcp) := ST7.out.2.2.2.1
                have ht1 : wr.cell? ⟨w.heap.size + 1 + 1, 1, none⟩ = some (.slice ra rs.length rcp) := ST7.out.2.2.2.2.1
                by_cases hlt : i < rs.length
                · as_aux_lemma =>
                    have hltz : (i : Int) < (rs.length : Int) := by omega
                    obtain ⟨qx, qy, q0, q1, ql, qc, qr⟩ := T8g.out.is
                    obtain ⟨qxa, qxc, rfl, -⟩ := id qc
                    obtain ⟨qya, qyc, rfl, -⟩ := id qr
                    have qP := Hid.mk (And.intro qc qr)
                    clear qc qr
                    obtain ⟨rb, ro, rc, hrv, hrbl, hrat⟩ := rowsS_at (HCR.out.2.1.below ST7.out.2.2.2.2.2.2.2.2) (show 0 < rs.length by omega)
                    simp only [Value.slice.injEq, true_and] at hrv
                    obtain ⟨rfl, rfl⟩ := hrv
                    obtain ⟨sb, so, sc, hsv, hsbl, hsat⟩ := rowsS_at qP.out.2 (by rw [HSR.out.2.1]; omega)
                    simp only [Value.slice.injEq, true_and] at hsv
                    obtain ⟨rfl, rfl⟩ := hsv
                    have hm := HLN.out.2.2.2
                    have hm' := HLS.out.2.2.2
                    obtain ⟨cnt, hcnt⟩ : ∃ q, cntR rs rs[i] = q := ⟨_, rfl⟩
                    have hcnt' : cntR SRV rs[i] = cnt := by rw [← HSRV.out, sort_cnt]; exact hcnt
                    have htl := ST7.out.2.2.2.2.2.2.1
                    have h8l := ql
                    have hgc : ∀ (q : Nat) (os : Array Obj) (a : Addr) (v : Value), a.block < wr.heap.size → wr.cell? a = some v → (grow (wr.drewN q) os).cell? a = some v := fun q os a v h1 h2 => cell_grown h1 h2 q os
                    have C1 : Aside (∀ (q : Nat) (os : Array Obj), Calls Tryz.prog 20 #[.slice (some ⟨rb, ro, none⟩) rs.length rcp, .pointer (some ⟨w.heap.size + 1 + 1, 0, none⟩), .pointer (some ⟨ib, 0, none⟩)] (grow (wr.drewN q) os) fun e w' => e = .returned (.int .i64 cnt) ∧ ∃ q' os', w' = grow ((grow (wr.drewN q) os).drewN q') os') := by
                      intro q os
                      have hbg := below_growN wr q os
                      have := sort3_any rb ro rcp (w.heap.size + 1 + 1) ib i rb ro rcp cs.length rs rs (grow (wr.drewN q) os) (by rw [size_grown]; omega) (fun k hk => by obtain ⟨u, z1, z2⟩ := hrat k hk; exact ⟨u, hgc q os _ _ hrbl z1, z2.below hbg⟩) (hgc q os _ _ htl ht1) (by rw [size_grown]; omega) (by rw [size_grown]; omega) (fun k hk => by obtain ⟨u, z1, z2⟩ := hrat k hk; exact ⟨u, hgc q os _ _ hrbl z1, z2.below hbg⟩) (hgc q os _ _ hib c0) (by rw [size_grown]; omega) hlt hm hm HLN.out.1 (by have := HLN.out.2.1; omega) (by omega) (by omega)
                      rw [hcnt] at this
                      exact this
                    have C2 : Aside (∀ (q : Nat) (os : Array Obj), Calls Tryz.prog 20 #[.slice (some ⟨sb, so, none⟩) SRV.length qyc, .pointer (some ⟨w.heap.size + 1 + 1, 0, none⟩), .pointer (some ⟨ib, 0, none⟩)] (grow (wr.drewN q) os) fun e w' => e = .returned (.int .i64 cnt) ∧ ∃ q' os', w' = grow ((grow (wr.drewN q) os).drewN q') os') := by
                      intro q os
                      have hbg := below_growN wr q os
                      have := sort3_any sb so qyc (w.heap.size + 1 + 1) ib i rb ro rcp cs.length SRV rs (grow (wr.drewN q) os) (by rw [size_grown]; omega) (fun k hk => by obtain ⟨u, z1, z2⟩ := hsat k hk; exact ⟨u, hgc q os _ _ hsbl z1, z2.below hbg⟩) (hgc q os _ _ htl ht1) (by rw [size_grown]; omega) (by rw [size_grown]; omega) (fun k hk => by obtain ⟨u, z1, z2⟩ := hrat k hk; exact ⟨u, hgc q os _ _ hrbl z1, z2.below hbg⟩) (hgc q os _ _ hib c0) (by rw [size_grown]; omega) hlt hm' hm HLN.out.1 (by have := HLN.out.2.1; omega) (by have := HSR.out.2.1; omega) (by omega)
                      rw [hcnt'] at this
                      exact this
                    have X0 := cell_grown (by exact htl) ht1
                    have X1 := cell_grown (by exact h8l) q1
                    have X2 := cell_grown (by exact hib) c0
                    clear hrat hsat hm hm' hcnt hcnt' hgc q0 qP hrbl hsbl
                    go_wp2_with fail
                    have C3 : Aside (∀ (v : Value) (q : Nat) (os : Array Obj), (v = .slice (some ⟨rb, ro, none⟩) rs.length rcp ∨ v = .slice (some ⟨sb, so, none⟩) SRV.length qyc) → Calls Tryz.prog 20 #[v, .pointer (some ⟨w.heap.size + 1 + 1, 0, none⟩), .pointer (some ⟨ib, 0, none⟩)] (grow (wr.drewN q) os) fun e w' => e = .returned (.int .i64 cnt) ∧ ∃ q' os', w' = grow ((grow (wr.drewN q) os).drewN q') os') := by
                      rintro v q os (rfl | rfl)
                      · exact C1.out q os
                      · exact C2.out q os
                    clear C1 C2
                    go_quiet_grown (first | (go_at_call 20; refine Calls.grown_of (C3.out _ _ _ (by first | exact Or.inl rfl | exact Or.inr rfl))))
                    have HB6 : Aside (Below W5.heap.size W5 (grow (wr.drewN nq) osq)) := bel_then HI.out.2 (below_growN _ _ _)
                    have c6 := X2 nq osq
                    have hs6 : W5.heap.size ≤ (grow (wr.drewN nq) osq).heap.size ∧ ib < (grow (wr.drewN nq) osq).heap.size := ⟨HB6.out.size, by rw [size_grown]; omega⟩
                    clear X0 X1 X2 C3 q1 c0 ht0 ht1
                    generalize grow (wr.drewN nq) osq = w6 at HB6 c6 hs6 ⊢
                    clear nq osq
                    go_wp2
                    go_roundg (rs.length - (i + 1))
                    case measure => omega
                    case rel =>
                      refine ⟨i + 1, w6.heap.size, rfl, by omega, Nat.le_refl _, by simp, ?_, ?_⟩
                      · first | (simp; done) | (rw [World.cell?_setCell_same _ _ _ (by simp)]; congr 2; omega)
                      · first | exact ((HB6.out.alloc hs6.1 _).setCell hs6.1 _) | exact HB6.out.alloc hs6.1 _
                · as_aux_lemma =>
                    have hltz : ¬ ((i : Int) < (rs.length : Int)) := by omega
                    have hb8 : b8 ≠ w.heap.size + 1 := by omega
                    have ST8 := Hid.mk (ST7.out.fil hb7)
                    have T8h := Hid.mk (T8g.out.put (k := 1) (v := .int .i64 1) (show w.heap.size + 1 < W0.heap.size by omega) hb8)
                    have f1 := ST7.out.2.2.1 1
                    have a1 := ST7.out.2.1 1 _ rfl
                    have hX : (wr.setCell ⟨w.heap.size + 1, 1, none⟩ (.int .i64 1)).heap.size = wr.heap.size := by simp
                    have mj0 : wr.cell? ⟨w.heap.size + 1, 0, none⟩ = some (.int .i64 j.at_) := ST7.out.2.1 0 _ rfl
                    have mj1 : wr.cell? ⟨w.heap.size + 1, 1, none⟩ = some (.int .i64 j.code) := ST7.out.2.1 1 _ rfl
                    have mj2 : wr.cell? ⟨w.heap.size + 1, 2, none⟩ = some j.outs := ST7.out.2.1 2 _ rfl
                    have mj3 : wr.cell? ⟨w.heap.size + 1, 3, none⟩ = some j.ins := ST7.out.2.1 3 _ rfl
                    have mj4 : wr.cell? ⟨w.heap.size + 1, 4, none⟩ = some j.cols := ST7.out.2.1 4 _ rfl
                    have mj5 : wr.cell? ⟨w.heap.size + 1, 5, none⟩ = some (.string j.op) := ST7.out.2.1 5 _ rfl
                    have mj6 : wr.cell? ⟨w.heap.size + 1, 6, none⟩ = some (.string j.left.1) := ST7.out.2.1 6 _ rfl
                    have mj7 : wr.cell? ⟨w.heap.size + 1, 7, none⟩ = some (.int .i64 j.left.2.1) := ST7.out.2.1 7 _ rfl
                    have mj8 : wr.cell? ⟨w.heap.size + 1, 8, none⟩ = some (.int .i64 j.left.2.2.1) := ST7.out.2.1 8 _ rfl
                    have mj9 : wr.cell? ⟨w.heap.size + 1, 9, none⟩ = some (.string j.left.2.2.2) := ST7.out.2.1 9 _ rfl
                    have mj10 : wr.cell? ⟨w.heap.size + 1, 10, none⟩ = some (.string j.right.1) := ST7.out.2.1 10 _ rfl
                    have mj11 : wr.cell? ⟨w.heap.size + 1, 11, none⟩ = some (.int .i64 j.right.2.1) := ST7.out.2.1 11 _ rfl
                    have mj12 : wr.cell? ⟨w.heap.size + 1, 12, none⟩ = some (.int .i64 j.right.2.2.1) := ST7.out.2.1 12 _ rfl
                    have mj13 : wr.cell? ⟨w.heap.size + 1, 13, none⟩ = some (.string j.right.2.2.2) := ST7.out.2.1 13 _ rfl
                    have mj14 : wr.cell? ⟨w.heap.size + 1, 14, none⟩ = some (.int .i64 j.retry) := ST7.out.2.1 14 _ rfl
                    obtain ⟨qx, qy, q0, q1, ql, qc, qr⟩ := T8g.out.is
                    obtain ⟨qxa, qxc, rfl, -⟩ := id qc
                    obtain ⟨qya, qyc, rfl, -⟩ := id qr
                    have qP := Hid.mk (And.intro qc qr)
                    clear qc qr
                    have hb8' : ¬ (w.heap.size + 1 = b8) := fun e => hb8 e.symm
                    clear a1
                    go_wp2_with (go_at_call 9; fail)
                    obtain ⟨W6, hW6⟩ : ∃ x, x = wr.setCell ⟨w.heap.size + 1, 1, none⟩ (.int .i64 1) := ⟨_, rfl⟩
                    rw [← hW6] at ST8 T8h ⊢
                    have hH6 : W6.heap.size = wr.heap.size := by rw [hW6]; simp
                    obtain ⟨rx, ry, r0, r1, rl, rc0, rr0⟩ := T8h.out.is
                    have hrx := r0.symm.trans ((by rw [hW6]; exact World.cell?_setCell_other _ _ _ _ (by intro e; simp only [Addr.mk.injEq] at e; exact hb8 e.1.symm)) : W6.cell? ⟨b8, 0, none⟩ = wr.cell? ⟨b8, 0, none⟩)
                    rw [q0] at hrx
                    obtain rfl := Option.some.inj hrx
                    have hry := r1.symm.trans ((by rw [hW6]; exact World.cell?_setCell_other _ _ _ _ (by intro e; simp only [Addr.mk.injEq] at e; exact hb8 e.1.symm)) : W6.cell? ⟨b8, 1, none⟩ = wr.cell? ⟨b8, 1, none⟩)
                    rw [q1] at hry
                    obtain rfl := Option.some.inj hry
                    have RP := Hid.mk (And.intro rc0 rr0)
                    clear r0 r1 rl rc0 rr0 hrx hry hb8'
                    clear c0 ht0 ht1 f1 hX q0 q1 ql hltz T8g ST7 HI hW6 mj0 mj1 mj2 mj3 mj4 mj5 mj6 mj7 mj8 mj9 mj10 mj11 mj12 mj13 mj14
                    refine (HF.out _ _ cs SRV W6 _ hH6 RP.out.1 RP.out.2).mono ?_
                    rintro e w8 ⟨hres, HB⟩
                    have hxo : ∀ o, Below W6.heap.size W6 (w8.alloc o) := fun o => bel_box (bel_then (below_box _ _) HB) o
                    have mj0 : ∀ o, (w8.alloc o).cell? ⟨w.heap.size + 1, 0, none⟩ = some (.int .i64 j.at_) := fun o => (ST8.out.below (hxo o)).2.1 0 _ rfl
                    have mj1 : ∀ o, (w8.alloc o).cell? ⟨w.heap.size + 1, 1, none⟩ = some (.int .i64 1) := fun o => (ST8.out.below (hxo o)).2.1 1 _ rfl
                    have mj2 : ∀ o, (w8.alloc o).cell? ⟨w.heap.size + 1, 2, none⟩ = some j.outs := fun o => (ST8.out.below (hxo o)).2.1 2 _ rfl
                    have mj3 : ∀ o, (w8.alloc o).cell? ⟨w.heap.size + 1, 3, none⟩ = some j.ins := fun o => (ST8.out.below (hxo o)).2.1 3 _ rfl
                    have mj4 : ∀ o, (w8.alloc o).cell? ⟨w.heap.size + 1, 4, none⟩ = some j.cols := fun o => (ST8.out.below (hxo o)).2.1 4 _ rfl
                    have mj5 : ∀ o, (w8.alloc o).cell? ⟨w.heap.size + 1, 5, none⟩ = some (.string j.op) := fun o => (ST8.out.below (hxo o)).2.1 5 _ rfl
                    have mj6 : ∀ o, (w8.alloc o).cell? ⟨w.heap.size + 1, 6, none⟩ = some (.string j.left.1) := fun o => (ST8.out.below (hxo o)).2.1 6 _ rfl
                    have mj7 : ∀ o, (w8.alloc o).cell? ⟨w.heap.size + 1, 7, none⟩ = some (.int .i64 j.left.2.1) := fun o => (ST8.out.below (hxo o)).2.1 7 _ rfl
                    have mj8 : ∀ o, (w8.alloc o).cell? ⟨w.heap.size + 1, 8, none⟩ = some (.int .i64 j.left.2.2.1) := fun o => (ST8.out.below (hxo o)).2.1 8 _ rfl
                    have mj9 : ∀ o, (w8.alloc o).cell? ⟨w.heap.size + 1, 9, none⟩ = some (.string j.left.2.2.2) := fun o => (ST8.out.below (hxo o)).2.1 9 _ rfl
                    have mj10 : ∀ o, (w8.alloc o).cell? ⟨w.heap.size + 1, 10, none⟩ = some (.string j.right.1) := fun o => (ST8.out.below (hxo o)).2.1 10 _ rfl
                    have mj11 : ∀ o, (w8.alloc o).cell? ⟨w.heap.size + 1, 11, none⟩ = some (.int .i64 j.right.2.1) := fun o => (ST8.out.below (hxo o)).2.1 11 _ rfl
                    have mj12 : ∀ o, (w8.alloc o).cell? ⟨w.heap.size + 1, 12, none⟩ = some (.int .i64 j.right.2.2.1) := fun o => (ST8.out.below (hxo o)).2.1 12 _ rfl
                    have mj13 : ∀ o, (w8.alloc o).cell? ⟨w.heap.size + 1, 13, none⟩ = some (.string j.right.2.2.2) := fun o => (ST8.out.below (hxo o)).2.1 13 _ rfl
                    have mj14 : ∀ o, (w8.alloc o).cell? ⟨w.heap.size + 1, 14, none⟩ = some (.int .i64 j.retry) := fun o => (ST8.out.below (hxo o)).2.1 14 _ rfl
                    have mt0 : ∀ o, (w8.alloc o).cell? ⟨w.heap.size + 1 + 1, 0, none⟩ = some (.slice (some ⟨cb, co, none⟩) cs.length vcp) := fun o => (ST8.out.below (hxo o)).2.2.2.1
                    have mt1 : ∀ o, (w8.alloc o).cell? ⟨w.heap.size + 1 + 1, 1, none⟩ = some (.slice ra rs.length rcp) := fun o => (ST8.out.below (hxo o)).2.2.2.2.1
                    have HFN := Hid.mk (show ¬ filtNo j.fil (cs, SRV) = 0 by rw [← HSRV.out, filt_sort _ HPP.out.1]; exact HYY.out.2)
                    obtain ⟨-, rfl⟩ := hres.resolve_left (fun h => HFN.out h.1)
                    go_wp2_with (go_at_call 9; fail)
                    obtain ⟨W7, hWW7⟩ : ∃ z, z = w8.alloc (.cells #[.slice none 0 0, .slice none 0 0] 25) := ⟨_, rfl⟩
                    rw [← hWW7]
                    have hbW7 : Below W6.heap.size W6 W7 := by rw [hWW7]; exact hxo _
                    have hH7 : W7.heap.size = w8.heap.size + 1 := by rw [hWW7]; simp
                    have ST9 := Hid.mk (ST8.out.below hbW7)
                    clear hWW7 hxo HB  mj0 mj1 mj2 mj3 mj4 mj5 mj6 mj7 mj8 mj9 mj10 mj11 mj12 mj13 mj14 mt0 mt1
                    refine (HF.out _ _ cs rs W7 _ hH7 (HCR.out.1.below ST9.out.2.2.2.2.2.2.2.2) (HCR.out.2.1.below ST9.out.2.2.2.2.2.2.2.2)).mono ?_
                    rintro e w9 ⟨hres, HB⟩
                    obtain ⟨-, rfl⟩ := hres.resolve_left (fun h => HYY.out.2 h.1)
                    have HBF := Hid.mk (fun o => bel_box (bel_then (bel_then ST9.out.2.2.2.2.2.2.2.2 (below_box _ _)) HB) o)
                    clear HB hres
                    go_wp2
                    go_ret
                    exact ⟨rfl, HBF.out _⟩
        · go_wp2
          go_ret
          exact ⟨rfl, HB2.out.2⟩
      · have h8' : (8 : Int) < (ss.length : Int) := by omega
        clear h8
        go_wp2
        go_ret
        exact ⟨rfl, HB2.out.2⟩
end Go.Proofs.YtccbjhaebajamaaGreatDoor
