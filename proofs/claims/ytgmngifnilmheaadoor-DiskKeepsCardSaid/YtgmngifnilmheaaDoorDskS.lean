import Derived.Test.YtgmngifnilmheaaDoorDskR
set_option linter.unusedSimpArgs false
set_option linter.unusedVariables false
namespace Go.Proofs.YtgmngifnilmheaaDoor.Dk
open Go.RowKit

theorem opc_len (x : Opn) : (opc x).length = 4 := rfl
theorem info_op : (Tryd.prog.info? 35).map (·.size) = some 4 := by kernel_rfl
theorem opc_one {x : Opn} (h : x.kv.oneCell' = true) : ∀ v ∈ opc x, v.oneCell' = true := by
  intro v hv
  simp only [opc, List.mem_cons, List.not_mem_nil, or_false] at hv
  rcases hv with rfl | rfl | rfl | rfl
  · rfl
  · rfl
  · rfl
  · exact h
theorem blk_op (w : World) : Blk (w.alloc (.cells #[.int .i64 0, .int .i64 0, .string ⟨#[]⟩, .slice none 0 0] 35)) w.heap.size [.int .i64 0, .int .i64 0, .string ⟨#[]⟩, .slice none 0 0] := Blk.new w [.int .i64 0, .int .i64 0, .string ⟨#[]⟩, .slice none 0 0] 35 _ rfl
theorem Two.done {W w : World} {D S : Nat} {vw : Value} {d : St} {R : Nat} {vS vA vW : Value} {e : St} (h : Two W w D S vw d R vS vA vW e) : Below W.heap.size W w := h.keep.below (by simp) (Nat.le_refl _)
theorem at_seven {w : World} {P j : Nat} {a b c d e f g : Int} (hj : j < 7) (h : Blk w P [.int .i64 a, .int .i64 b, .int .i64 c, .int .i64 d, .int .i64 e, .int .i64 f, .int .i64 g]) : ∃ pa, w.cell? ⟨P, j, none⟩ = some (.int .i64 pa) := by
  match j, hj with
  | 0, _ => exact ⟨_, h.cell 0 rfl⟩
  | 1, _ => exact ⟨_, h.cell 1 rfl⟩
  | 2, _ => exact ⟨_, h.cell 2 rfl⟩
  | 3, _ => exact ⟨_, h.cell 3 rfl⟩
  | 4, _ => exact ⟨_, h.cell 4 rfl⟩
  | 5, _ => exact ⟨_, h.cell 5 rfl⟩
  | 6, _ => exact ⟨_, h.cell 6 rfl⟩
theorem keep_d {D S : Nat} {vw : Value} {w w' : World} (h : Keep [D] w w') : Keep (blocks D S vw) w w' := h.sub (fun x hx => Or.inl (by simp at hx; simp [hx, blocks]))
theorem keep_r {R : Nat} {vS vA vW : Value} {w w' : World} (h : Keep [R] w w') : Keep (rblocks R vS vA vW) w w' := h.sub (fun x hx => Or.inl (by simp at hx; simp [hx, rblocks]))
theorem far_of {W : World} {v : Value} {ks : List Bool} (h : Lst W v (bl ks)) : ks = [] ∨ ∀ g, W.heap.size ≤ g → v.ownBlock ≠ some g := by
  obtain ⟨a, c, rfl, hx⟩ := h
  rcases hx with hx | ⟨b, o, rfl, hb, -⟩
  · left
    simpa [bl] using hx
  · right
    intro g hg e
    simp [Value.ownBlock] at e
    omega
def handleV : Value := .iface 140 (.agg #[.pointer (some ⟨4, 29, none⟩)])
set_option maxRecDepth 100000 in
set_option maxHeartbeats 1600000 in
theorem keeps_bad (n : Int) (v : Value) (l : List Opn) (W : World) (hl : OpsIs W v l) (h40 : l.length ≤ 40) (hn : n < 8 ∨ 16384 < n) (hg : W.cell? ⟨0, 0, none⟩ = some handleV) :
    Calls Tryd.prog 3 #[.int .i64 n, v] W fun e w' => e = .returned (.bool true) ∧ Below W.heap.size W w' := by
  obtain ⟨a, c, rfl, -, -⟩ := hl
  have H1 := hid (rnew_bad n W hn)
  have H2 := hid (new_bad n W hn)
  have hl0 : 0 < W.heap.size := World.block_lt_of_cell? W ⟨0, 0, none⟩ hg
  have HB := hid (fun (w : World) (hb : Below W.heap.size W w) => bare_any 2 w ((hb.cell (p := ⟨0, 0, none⟩) hl0).trans hg))
  have he : errV 2 = .iface 24 (.int .i64 2) := by rw [errV, if_neg (by decide)]
  rw [he] at HB
  have h40I : decide ((40 : Int) < (l.length : Int)) = false := by simp; omega
  obtain ⟨m, hm⟩ : ∃ m, l.length = m := ⟨_, rfl⟩
  rw [hm] at h40I ⊢
  clear hm hn he h40
  go_enter Tryd.func3, Tryd.ntmps3
  go_wp2_with (first | (go_at_call 6; refine H1.out.mono ?_; rintro e w1 ⟨rfl, rfl⟩) | (go_at_call 7; refine H2.out.mono ?_; rintro e w2 ⟨rfl, rfl⟩) | (go_at_call 8; fail))
  refine (HB.out _ (Below.refl _ _)).mono ?_
  rintro e w3 ⟨rfl, b3⟩
  go_wp2_with (first | (go_at_call 8; fail))
  refine (HB.out _ b3).mono ?_
  rintro e w4 ⟨rfl, b4⟩
  go_wp2
  go_ret
  exact ⟨rfl, b3.trans (b4.mono b3.size)⟩
set_option maxRecDepth 100000 in
set_option maxHeartbeats 8000000 in
theorem keeps_good (n : Nat) (v : Value) (l : List Opn) (W : World) (hl : OpsIs W v l) (h40 : l.length ≤ 40) (h8 : 8 ≤ n) (hn : n ≤ 16384) (hg : W.cell? ⟨0, 0, none⟩ = some handleV) :
    Calls Tryd.prog 3 #[.int .i64 n, v] W fun e w' => e = .returned (.bool true) ∧ Below W.heap.size W w' := by
  obtain ⟨a, c, rfl, hla, hlo⟩ := hl
  have HLA := hid hla
  have HLO := hid hlo
  have H1 := hid (rnew_any n W h8 hn)
  have H2 := hid (fun w => new_any n w h8 hn)
  have hl0 : 0 < W.heap.size := World.block_lt_of_cell? W ⟨0, 0, none⟩ hg
  have HB := hid (fun (e : Int) (w : World) (hb : Keep [] W w) => bare_any e w ((World.cell?_of_block (w := W) (a := ⟨0, 0, none⟩) (hb.block 0 hl0 (by simp))).trans hg))
  have h40I : decide ((40 : Int) < (l.length : Int)) = false := by simp; omega
  obtain ⟨m, hm⟩ : ∃ m, l.length = m := ⟨_, rfl⟩
  have HMM := hid hm
  rw [hm] at h40I h40 ⊢
  clear hm hla hlo hg
  go_enter Tryd.func3, Tryd.ntmps3
  go_wp2_with (first | (go_at_call 6; refine H1.out.mono ?_; rintro e w1 ⟨R, vS, rfl, r1, b1, n1⟩) | (go_at_call 7; refine (H2.out _).mono ?_; rintro e w2 ⟨D, S, rfl, a2, b2, hD, hS⟩) | (go_at_call 8; fail))
  have T2 : Hid (Two W w2 D S (.slice none 0 0) (newD n) R vS (.slice none 0 0) (.slice none 0 0) (newD n)) := hid (by
    have q1 := b1.size
    refine ⟨a2, r1.below b2, (Keep.of (X := []) b1).then (Keep.of (X := []) b2) (by simp), fun k hk => ?_, n1, fun k hk hr => ?_⟩
    · rw [blocks_none] at hk
      simp at hk
      rcases hk with rfl | rfl <;> omega
    · have := r1.lt k hr
      rw [blocks_none] at hk
      simp at hk
      rcases hk with rfl | rfl <;> omega)
  have HZ : Hid (errV 0 = .nilIface) := hid rfl
  have HB0 := hid (HB.out 0 w2 T2.out.keep)
  rw [HZ.out] at HB0
  refine HB0.out.mono ?_
  rintro e w3 ⟨rfl, b3⟩
  have T3 := hid (T2.out.below b3)
  clear T2 HB0 a2 b2 hD hS r1 b1 n1 b3 H1 H2
  go_wp2
  go_loopw [9] (fun i wr => ∃ (k : Nat) (vw : Value) (d : St) (vA vW : Value), k ≤ m ∧ i = .int .i64 k ∧ Two W wr D S vw d R vS vA vW d ∧ d.sure.length = n ∧ d.ws.length ≤ k) (fun i wr => m - (intOf i).toNat)
  case atStart => exact ⟨0, _, _, _, _, Nat.zero_le _, rfl, T3.out, by simp [newD], by simp [newD]⟩
  case round =>
    obtain ⟨k, vw, d, vA, vW, hk, rfl, ht, hd1, hd2⟩ := hrel
    have TT := hid ht
    have D1 := hid hd1
    have D2 := hid hd2
    clear ht hd1 hd2
    obtain ⟨gS, cS, hvS, -, -⟩ := TT.out.ref.oS.form (by rw [D1.out]; omega)
    rw [D1.out] at hvS
    subst hvS
    by_cases hlt : k < m
    · have hk2 : k < l.length := by have := HMM.out; omega
      have hne : l ≠ [] := by intro q; rw [q] at hk2; simp at hk2
      obtain ⟨b, o, ha, hb, hr⟩ := HLA.out.resolve_left hne
      subst ha
      obtain ⟨x, hx⟩ : ∃ x, l[k] = x := ⟨_, rfl⟩
      have hro := hr k hk2
      have hoo := HLO.out l[k] (List.getElem_mem hk2)
      rw [hx] at hro hoo
      clear hr hx
      obtain ⟨wh, ax, sx, kv, ks⟩ := x
      obtain ⟨ka, kc, hkv, -⟩ := hoo.lst
      have hbl : (bl ks).length = ks.length := by simp [bl]
      rw [hbl] at hkv
      have hkv' : kv = .slice ka ks.length kc := hkv
      subst hkv'
      obtain ⟨cs, hcs⟩ : ∃ cs, opc ⟨wh, ax, sx, .slice ka ks.length kc, ks⟩ = cs := ⟨_, rfl⟩
      have HRG : Hid (wr.rangeAt b (o + k * 4) cs) := hid (fun j u hj => (World.cell?_of_block (w := W) (a := ⟨b, o + k * 4 + j, none⟩) (TT.out.keep.block b hb (by simp))).trans (hro j u (by rw [hcs]; exact hj)))
      have HOO := hid hoo
      have HCS := hid hcs
      have hcl : cs.length = 4 := by rw [← hcs]; rfl
      have HC1 : Hid (∀ u ∈ cs, u.oneCell' = true) := hid (by rw [← hcs]; exact opc_one rfl)
      obtain ⟨X, hX⟩ : ∃ X, wr.heap.size = X := ⟨_, rfl⟩
      obtain ⟨w1, hw1⟩ : ∃ w1, World.setCells (wr.alloc (.cells #[.int .i64 0, .int .i64 0, .string ⟨#[]⟩, .slice none 0 0] 35)) X 0 cs = w1 := ⟨_, rfl⟩
      have X1 : Blk w1 X cs := by
        have := (blk_op wr).sets cs 0
        rw [over_all _ _ (by rw [hcl]; rfl), hX, hw1] at this
        exact this
      have K1 : Keep [] wr w1 := by rw [← hw1]; exact Keep.sets _ _ ((Keep.refl [] wr).alloc _) (Or.inr (by rw [hX]; exact Nat.le_refl _))
      have HT1 : Hid ((wr.alloc (.cells #[.int .i64 0, .int .i64 0, .string ⟨#[]⟩, .slice none 0 0] 35)).there X 0 cs.toArray.size) := hid (by rw [← hX]; exact (blk_op wr).there (by rw [List.size_toArray, hcl]; exact Nat.le_refl 4))
      have HT2 : Hid ((Tryd.prog.info? 35).map (·.size) = some cs.toArray.size) := hid (by rw [List.size_toArray, hcl]; exact info_op)
      have HT3 : Hid ((Tryd.prog.info? 35).map (·.size) = some cs.length) := hid (by rw [hcl]; exact info_op)
      have T1 := hid (TT.out.below (K1.below (by simp) (Nat.le_refl _)))
      have HD1 : Hid (Hold w1 X cs D S vw R (.slice (some ⟨gS, 0, none⟩) n cS) vA vW) := hid ⟨X1, fun q => by have := TT.out.disk.blocks_lt X q; omega, fun q => by have := TT.out.ref.lt X q; omega⟩
      have y0 : w1.cell? ⟨X, 0, none⟩ = some (.int .i64 wh) := HD1.out.blk.cell 0 (by rw [← hcs]; rfl)
      have y1 : w1.cell? ⟨X, 1, none⟩ = some (.int .i64 ax) := HD1.out.blk.cell 1 (by rw [← hcs]; rfl)
      have y2 : w1.cell? ⟨X, 2, none⟩ = some (.string sx) := HD1.out.blk.cell 2 (by rw [← hcs]; rfl)
      have y3 : w1.cell? ⟨X, 3, none⟩ = some (.slice ka ks.length kc) := HD1.out.blk.cell 3 (by rw [← hcs]; rfl)
      have HYY : Hid (∀ w' : World, Blk w' X cs → w'.cell? ⟨X, 1, none⟩ = some (.int .i64 ax) ∧ w'.cell? ⟨X, 2, none⟩ = some (.string sx) ∧ w'.cell? ⟨X, 3, none⟩ = some (.slice ka ks.length kc)) := hid (fun w' h' => ⟨h'.cell 1 (by rw [← hcs]; rfl), h'.cell 2 (by rw [← hcs]; rfl), h'.cell 3 (by rw [← hcs]; rfl)⟩)
      have hkmI : (k : Int) < (m : Int) := by omega
      clear hcs K1 hro hoo hbl hkv
      by_cases g1 : 80 < sx.size
      · have g1I : decide ((80 : Int) < (sx.size : Int)) = true := by simp; omega
        go_wp2_with (first | (refine wpList_load_mid rfl 35 (.tmp 53) rfl b (o + k * 4) rfl cs _ HRG.out Tryd.underlying35 rfl HT3.out ?_) | (refine wpList_store_mid rfl 35 (.tmp 10) (.tmp 54) rfl X 0 cs.toArray rfl rfl HT1.out HT2.out (all_oneCell_toArray HC1.out) ?_; rw [show cs.toArray.toList = cs from rfl, hw1]))
        go_ret
        exact ⟨rfl, T1.out.done⟩
      by_cases g2 : 40 < ks.length
      · have g1I : decide ((80 : Int) < (sx.size : Int)) = false := by simp; omega
        have g2I : decide ((40 : Int) < (ks.length : Int)) = true := by simp; omega
        go_wp2_with (first | (refine wpList_load_mid rfl 35 (.tmp 53) rfl b (o + k * 4) rfl cs _ HRG.out Tryd.underlying35 rfl HT3.out ?_) | (refine wpList_store_mid rfl 35 (.tmp 10) (.tmp 54) rfl X 0 cs.toArray rfl rfl HT1.out HT2.out (all_oneCell_toArray HC1.out) ?_; rw [show cs.toArray.toList = cs from rfl, hw1]))
        go_ret
        exact ⟨rfl, T1.out.done⟩
      have g1I : decide ((80 : Int) < (sx.size : Int)) = false := by simp; omega
      have g2I : decide ((40 : Int) < (ks.length : Int)) = false := by simp; omega
      have HF : Hid (d.ws.length < 1000000) := hid (by have := D2.out; omega)
      by_cases q0 : wh = 0
      · subst q0
        have HS80 : Hid (sx.size ≤ 80) := hid (by omega)
        have HW1 := hid (write_at D S vw d ax sx w1.drew T1.out.drew.disk HS80.out HF.out)
        go_wp2_with (first | (refine wpList_load_mid rfl 35 (.tmp 53) rfl b (o + k * 4) rfl cs _ HRG.out Tryd.underlying35 rfl HT3.out ?_) | (refine wpList_store_mid rfl 35 (.tmp 10) (.tmp 54) rfl X 0 cs.toArray rfl rfl HT1.out HT2.out (all_oneCell_toArray HC1.out) ?_; rw [show cs.toArray.toList = cs from rfl, hw1]))
        go_region_held3 (fun w' => w'.cell? ⟨X, 1, none⟩ = some (.int .i64 ax) ∧ w'.cell? ⟨X, 2, none⟩ = some (.string sx)) (first | exact ⟨y1, y2⟩ | exact ⟨G2.out.1, G2.out.2.1⟩ | exact ⟨G3.out.1, G3.out.2.1⟩ | exact ⟨G4.out.1, G4.out.2.1⟩) (first | (go_at_call 9; refine HW1.out.mono ?_; rintro e w2 ⟨rfl, vw2, a2, k2, f2⟩; have T2 := hid (T1.out.drew.dstep a2 k2 f2); have HD2 := hid (HD1.out.drew.dstep k2 f2); have G2 := hid (HYY.out w2 HD2.out.blk); have HRW := hid (rwrite_at R _ vA vW d ax sx w2 T2.out.ref HS80.out HF.out); clear a2 k2 f2) | (go_at_call 10; refine HRW.out.mono ?_; rintro e w3 ⟨rfl, vA3, vW3, a3, k3, f3⟩; have T3 := hid (T2.out.rstep a3 k3 f3); have HD3 := hid (HD2.out.rstep k3 f3); have G3 := hid (HYY.out w3 HD3.out.blk); have HBB := hid (HB.out (wrE d ax sx) w3 T3.out.keep); clear a3 k3 f3) | (go_at_call 8; refine HBB.out.mono ?_; rintro e w4 ⟨rfl, b4⟩; have T4 := hid (T3.out.below b4); have HD4 := hid (HD3.out.below b4); have G4 := hid (HYY.out w4 HD4.out.blk); clear b4))
        go_wp2
        obtain ⟨dt, hdt⟩ : ∃ dt, wrS d ax sx = dt := ⟨_, rfl⟩
        have N5 : Hid (dt.sure.length = n) := hid (by rw [← hdt]; exact (len_wr d ax sx).1.trans D1.out)
        have M5 : Hid (dt.ws.length ≤ k + 1) := hid (by rw [← hdt]; exact Nat.le_trans (len_wr d ax sx).2 (Nat.succ_le_succ D2.out))
        rw [hdt] at T4
        clear hdt
        have x1 := (HYY.out w4 HD4.out.blk).1
        have r0 := T4.out.ref.c0
        have HZ5 : Hid (∀ o : Obj, (w4.drew.alloc o).cell? ⟨X, 1, none⟩ = some (.int .i64 ax) ∧ (w4.drew.alloc o).cell? ⟨R, 0, none⟩ = some (.slice (some ⟨gS, 0, none⟩) n cS)) := hid (fun o => ⟨(HYY.out _ (HD4.out.drew.blk.alloc o)).1, (T4.out.drew.ref.head.alloc o).cell 0 rfl⟩)
        go_region_held3 (fun w' => w'.cell? ⟨X, 1, none⟩ = some (.int .i64 ax) ∧ w'.cell? ⟨R, 0, none⟩ = some (.slice (some ⟨gS, 0, none⟩) n cS)) (first | exact ⟨x1, r0⟩ | exact HZ5.out _) (fail)
        go_wp2
        obtain ⟨w6, hw6⟩ : ∃ w6, (w4.alloc (.cells #[.int .i64 ax, .int .i64 0, .int .i64 1, .int .i64 7, .int .i64 (IntKind.i64.wrap ((n : Int) - 1)), .int .i64 (n : Int), .int .i64 (-1)] 3)).drew = w6 := ⟨_, rfl⟩
        have T6 := hid ((T4.out.below ((Below.refl _ w4).alloc (Nat.le_refl _) (.cells #[.int .i64 ax, .int .i64 0, .int .i64 1, .int .i64 7, .int .i64 (IntKind.i64.wrap ((n : Int) - 1)), .int .i64 (n : Int), .int .i64 (-1)] 3))).drew)
        have P6 : Hid (Blk w6 w4.heap.size [.int .i64 ax, .int .i64 0, .int .i64 1, .int .i64 7, .int .i64 (IntKind.i64.wrap ((n : Int) - 1)), .int .i64 (n : Int), .int .i64 (-1)]) := hid (by
          rw [← hw6]
          exact (Blk.new w4 [.int .i64 ax, .int .i64 0, .int .i64 1, .int .i64 7, .int .i64 (IntKind.i64.wrap ((n : Int) - 1)), .int .i64 (n : Int), .int .i64 (-1)] 3 _ rfl).block rfl)
        rw [hw6] at T6
        rw [hw6]
        obtain ⟨P, hP⟩ : ∃ P, w4.heap.size = P := ⟨_, rfl⟩
        rw [hP] at P6
        rw [hP]
        clear hw6 hP HZ5 x1 r0
        go_loopw [126] (fun i wz => ∃ j : Nat, j ≤ 7 ∧ i = .int .i64 j ∧ Below w6.heap.size w6 wz) (fun i wz => 7 - (intOf i).toNat)
        case atStart => exact ⟨0, by omega, rfl, Below.refl _ _⟩
        case round =>
          obtain ⟨j, hj, rfl, hbz⟩ := hrel
          have TZ := hid (T6.out.below hbz)
          have BZ := hid hbz
          clear hbz
          by_cases hj7 : j < 7
          · obtain ⟨pa, hpa⟩ : ∃ pa, wr.cell? ⟨P, j, none⟩ = some (.int .i64 pa) := at_seven hj7 (P6.out.below BZ.out)
            have hjI : (j : Int) < 7 := by omega
            obtain ⟨sT, hsT⟩ : ∃ sT, rdT dt pa = sT := ⟨_, rfl⟩
            obtain ⟨eI, heI⟩ : ∃ eI, rdE dt pa = eI := ⟨_, rfl⟩
            obtain ⟨eV, heV⟩ : ∃ eV, errV eI = eV := ⟨_, rfl⟩
            have HRR := hid (rread_at R _ _ _ dt pa wr TZ.out.ref)
            have HRD := hid (read_at D S _ dt pa wr TZ.out.disk)
            rw [hsT, heI] at HRR HRD
            rw [heV] at HRD
            have HBE := hid (fun (w : World) (hb : Keep [] W w) => HB.out eI w hb)
            rw [heV] at HBE
            clear hsT heI heV
            go_wp2_with (first | (go_at_call 17; refine HRR.out.mono ?_; rintro e wq ⟨rfl, rfl⟩) | (go_at_call 18; refine HRD.out.mono ?_; rintro e w7 ⟨rfl, b7⟩; have T7 := hid (TZ.out.below b7)) | (go_at_call 8; refine (HBE.out _ T7.out.keep).mono ?_; rintro e w8 ⟨rfl, b8⟩))
            go_roundw
            case rel => exact ⟨j + 1, by omega, by go_num, BZ.out.trans ((b7.mono BZ.out.size).trans (b8.mono (Nat.le_trans BZ.out.size b7.size)))⟩
            case measure => simp [intOf]; omega
          · obtain rfl : j = 7 := by omega
            go_wp2
            go_roundw
            case rel => exact ⟨k + 1, _, _, _, _, by omega, by go_num, TZ.out, N5.out, M5.out⟩
            case measure => simp [intOf]; omega
      by_cases q1 : wh = 1
      · subst q1
        have HS1 := hid (sync_at D S vw d w1 T1.out.disk)
        go_wp2_with (first | (refine wpList_load_mid rfl 35 (.tmp 53) rfl b (o + k * 4) rfl cs _ HRG.out Tryd.underlying35 rfl HT3.out ?_) | (refine wpList_store_mid rfl 35 (.tmp 10) (.tmp 54) rfl X 0 cs.toArray rfl rfl HT1.out HT2.out (all_oneCell_toArray HC1.out) ?_; rw [show cs.toArray.toList = cs from rfl, hw1]) | (go_at_call 11; refine HS1.out.mono ?_; rintro e w2 ⟨rfl, vw2, a2, k2, f2⟩; have T2 := hid (T1.out.dstep a2 k2 f2); have HD2 := hid (HD1.out.dstep k2 f2); have HRS := hid (rsync_at R _ vA vW d w2 T2.out.ref); clear a2 k2 f2) | (go_at_call 12; refine HRS.out.mono ?_; rintro e w3 ⟨rfl, vA3, vW3, a3, k3, f3⟩; have T3 := hid (T2.out.rstep a3 k3 f3); have HD3 := hid (HD2.out.rstep k3 f3); have HBB := hid (HB.out (syE d) w3 T3.out.keep); clear a3 k3 f3) | (go_at_call 8; refine HBB.out.mono ?_; rintro e w4 ⟨rfl, b4⟩; have T4 := hid (T3.out.below b4); have HD4 := hid (HD3.out.below b4); clear b4))
        obtain ⟨dt, hdt⟩ : ∃ dt, syS d = dt := ⟨_, rfl⟩
        have N5 : Hid (dt.sure.length = n) := hid (by rw [← hdt]; exact (len_sy d).1.trans D1.out)
        have M5 : Hid (dt.ws.length ≤ k + 1) := hid (by rw [← hdt]; exact Nat.le_trans (len_sy d).2 (Nat.le_succ_of_le D2.out))
        rw [hdt] at T4
        clear hdt
        have x1 := (HYY.out w4 HD4.out.blk).1
        have r0 := T4.out.ref.c0
        have HZ5 : Hid (∀ o : Obj, (w4.drew.alloc o).cell? ⟨X, 1, none⟩ = some (.int .i64 ax) ∧ (w4.drew.alloc o).cell? ⟨R, 0, none⟩ = some (.slice (some ⟨gS, 0, none⟩) n cS)) := hid (fun o => ⟨(HYY.out _ (HD4.out.drew.blk.alloc o)).1, (T4.out.drew.ref.head.alloc o).cell 0 rfl⟩)
        go_region_held3 (fun w' => w'.cell? ⟨X, 1, none⟩ = some (.int .i64 ax) ∧ w'.cell? ⟨R, 0, none⟩ = some (.slice (some ⟨gS, 0, none⟩) n cS)) (first | exact ⟨x1, r0⟩ | exact HZ5.out _) (fail)
        go_wp2
        obtain ⟨w6, hw6⟩ : ∃ w6, (w4.alloc (.cells #[.int .i64 ax, .int .i64 0, .int .i64 1, .int .i64 7, .int .i64 (IntKind.i64.wrap ((n : Int) - 1)), .int .i64 (n : Int), .int .i64 (-1)] 3)).drew = w6 := ⟨_, rfl⟩
        have T6 := hid ((T4.out.below ((Below.refl _ w4).alloc (Nat.le_refl _) (.cells #[.int .i64 ax, .int .i64 0, .int .i64 1, .int .i64 7, .int .i64 (IntKind.i64.wrap ((n : Int) - 1)), .int .i64 (n : Int), .int .i64 (-1)] 3))).drew)
        have P6 : Hid (Blk w6 w4.heap.size [.int .i64 ax, .int .i64 0, .int .i64 1, .int .i64 7, .int .i64 (IntKind.i64.wrap ((n : Int) - 1)), .int .i64 (n : Int), .int .i64 (-1)]) := hid (by
          rw [← hw6]
          exact (Blk.new w4 [.int .i64 ax, .int .i64 0, .int .i64 1, .int .i64 7, .int .i64 (IntKind.i64.wrap ((n : Int) - 1)), .int .i64 (n : Int), .int .i64 (-1)] 3 _ rfl).block rfl)
        rw [hw6] at T6
        rw [hw6]
        obtain ⟨P, hP⟩ : ∃ P, w4.heap.size = P := ⟨_, rfl⟩
        rw [hP] at P6
        rw [hP]
        clear hw6 hP HZ5 x1 r0
        go_loopw [126] (fun i wz => ∃ j : Nat, j ≤ 7 ∧ i = .int .i64 j ∧ Below w6.heap.size w6 wz) (fun i wz => 7 - (intOf i).toNat)
        case atStart => exact ⟨0, by omega, rfl, Below.refl _ _⟩
        case round =>
          obtain ⟨j, hj, rfl, hbz⟩ := hrel
          have TZ := hid (T6.out.below hbz)
          have BZ := hid hbz
          clear hbz
          by_cases hj7 : j < 7
          · obtain ⟨pa, hpa⟩ : ∃ pa, wr.cell? ⟨P, j, none⟩ = some (.int .i64 pa) := at_seven hj7 (P6.out.below BZ.out)
            have hjI : (j : Int) < 7 := by omega
            obtain ⟨sT, hsT⟩ : ∃ sT, rdT dt pa = sT := ⟨_, rfl⟩
            obtain ⟨eI, heI⟩ : ∃ eI, rdE dt pa = eI := ⟨_, rfl⟩
            obtain ⟨eV, heV⟩ : ∃ eV, errV eI = eV := ⟨_, rfl⟩
            have HRR := hid (rread_at R _ _ _ dt pa wr TZ.out.ref)
            have HRD := hid (read_at D S _ dt pa wr TZ.out.disk)
            rw [hsT, heI] at HRR HRD
            rw [heV] at HRD
            have HBE := hid (fun (w : World) (hb : Keep [] W w) => HB.out eI w hb)
            rw [heV] at HBE
            clear hsT heI heV
            go_wp2_with (first | (go_at_call 17; refine HRR.out.mono ?_; rintro e wq ⟨rfl, rfl⟩) | (go_at_call 18; refine HRD.out.mono ?_; rintro e w7 ⟨rfl, b7⟩; have T7 := hid (TZ.out.below b7)) | (go_at_call 8; refine (HBE.out _ T7.out.keep).mono ?_; rintro e w8 ⟨rfl, b8⟩))
            go_roundw
            case rel => exact ⟨j + 1, by omega, by go_num, BZ.out.trans ((b7.mono BZ.out.size).trans (b8.mono (Nat.le_trans BZ.out.size b7.size)))⟩
            case measure => simp [intOf]; omega
          · obtain rfl : j = 7 := by omega
            go_wp2
            go_roundw
            case rel => exact ⟨k + 1, _, _, _, _, by omega, by go_num, TZ.out, N5.out, M5.out⟩
            case measure => simp [intOf]; omega
      by_cases q2 : wh = 2
      · subst q2
        have HS1 := hid (fuse_any D S vw d ax w1 T1.out.disk HOO.out.a0 HOO.out.a1)
        go_wp2_with (first | (refine wpList_load_mid rfl 35 (.tmp 53) rfl b (o + k * 4) rfl cs _ HRG.out Tryd.underlying35 rfl HT3.out ?_) | (refine wpList_store_mid rfl 35 (.tmp 10) (.tmp 54) rfl X 0 cs.toArray rfl rfl HT1.out HT2.out (all_oneCell_toArray HC1.out) ?_; rw [show cs.toArray.toList = cs from rfl, hw1]) | (go_at_call 13; refine HS1.out.mono ?_; rintro e w2 ⟨rfl, a2, k2, -⟩; have T2 := hid (T1.out.dstep a2 (keep_d k2) (fun k hk => Or.inl hk)); have HD2 := hid (HD1.out.dstep (vw' := vw) (keep_d k2) (fun k hk => Or.inl hk)); have HRS := hid (rfuse_any R _ vA vW d ax w2 T2.out.ref HOO.out.a0 HOO.out.a1); have z1 := (HYY.out w2 HD2.out.blk).1; clear a2 k2) | (go_at_call 14; refine HRS.out.mono ?_; rintro e w4 ⟨rfl, a3, k3⟩; have T4 := hid (T2.out.rstep a3 (keep_r k3) (fun k hk => Or.inl hk)); have HD4 := hid (HD2.out.rstep (vA' := vA) (vW' := vW) (keep_r k3) (fun k hk => Or.inl hk)); clear a3 k3))
        obtain ⟨dt, hdt⟩ : ∃ dt, (⟨d.sure, d.ws, ax⟩ : St) = dt := ⟨_, rfl⟩
        have N5 : Hid (dt.sure.length = n) := hid (by rw [← hdt]; exact D1.out)
        have M5 : Hid (dt.ws.length ≤ k + 1) := hid (by rw [← hdt]; exact Nat.le_succ_of_le D2.out)
        rw [hdt] at T4
        clear hdt
        have x1 := (HYY.out w4 HD4.out.blk).1
        have r0 := T4.out.ref.c0
        have HZ5 : Hid (∀ o : Obj, (w4.drew.alloc o).cell? ⟨X, 1, none⟩ = some (.int .i64 ax) ∧ (w4.drew.alloc o).cell? ⟨R, 0, none⟩ = some (.slice (some ⟨gS, 0, none⟩) n cS)) := hid (fun o => ⟨(HYY.out _ (HD4.out.drew.blk.alloc o)).1, (T4.out.drew.ref.head.alloc o).cell 0 rfl⟩)
        go_region_held3 (fun w' => w'.cell? ⟨X, 1, none⟩ = some (.int .i64 ax) ∧ w'.cell? ⟨R, 0, none⟩ = some (.slice (some ⟨gS, 0, none⟩) n cS)) (first | exact ⟨x1, r0⟩ | exact HZ5.out _) (fail)
        go_wp2
        obtain ⟨w6, hw6⟩ : ∃ w6, (w4.alloc (.cells #[.int .i64 ax, .int .i64 0, .int .i64 1, .int .i64 7, .int .i64 (IntKind.i64.wrap ((n : Int) - 1)), .int .i64 (n : Int), .int .i64 (-1)] 3)).drew = w6 := ⟨_, rfl⟩
        have T6 := hid ((T4.out.below ((Below.refl _ w4).alloc (Nat.le_refl _) (.cells #[.int .i64 ax, .int .i64 0, .int .i64 1, .int .i64 7, .int .i64 (IntKind.i64.wrap ((n : Int) - 1)), .int .i64 (n : Int), .int .i64 (-1)] 3))).drew)
        have P6 : Hid (Blk w6 w4.heap.size [.int .i64 ax, .int .i64 0, .int .i64 1, .int .i64 7, .int .i64 (IntKind.i64.wrap ((n : Int) - 1)), .int .i64 (n : Int), .int .i64 (-1)]) := hid (by
          rw [← hw6]
          exact (Blk.new w4 [.int .i64 ax, .int .i64 0, .int .i64 1, .int .i64 7, .int .i64 (IntKind.i64.wrap ((n : Int) - 1)), .int .i64 (n : Int), .int .i64 (-1)] 3 _ rfl).block rfl)
        rw [hw6] at T6
        rw [hw6]
        obtain ⟨P, hP⟩ : ∃ P, w4.heap.size = P := ⟨_, rfl⟩
        rw [hP] at P6
        rw [hP]
        clear hw6 hP HZ5 x1 r0
        go_loopw [126] (fun i wz => ∃ j : Nat, j ≤ 7 ∧ i = .int .i64 j ∧ Below w6.heap.size w6 wz) (fun i wz => 7 - (intOf i).toNat)
        case atStart => exact ⟨0, by omega, rfl, Below.refl _ _⟩
        case round =>
          obtain ⟨j, hj, rfl, hbz⟩ := hrel
          have TZ := hid (T6.out.below hbz)
          have BZ := hid hbz
          clear hbz
          by_cases hj7 : j < 7
          · obtain ⟨pa, hpa⟩ : ∃ pa, wr.cell? ⟨P, j, none⟩ = some (.int .i64 pa) := at_seven hj7 (P6.out.below BZ.out)
            have hjI : (j : Int) < 7 := by omega
            obtain ⟨sT, hsT⟩ : ∃ sT, rdT dt pa = sT := ⟨_, rfl⟩
            obtain ⟨eI, heI⟩ : ∃ eI, rdE dt pa = eI := ⟨_, rfl⟩
            obtain ⟨eV, heV⟩ : ∃ eV, errV eI = eV := ⟨_, rfl⟩
            have HRR := hid (rread_at R _ _ _ dt pa wr TZ.out.ref)
            have HRD := hid (read_at D S _ dt pa wr TZ.out.disk)
            rw [hsT, heI] at HRR HRD
            rw [heV] at HRD
            have HBE := hid (fun (w : World) (hb : Keep [] W w) => HB.out eI w hb)
            rw [heV] at HBE
            clear hsT heI heV
            go_wp2_with (first | (go_at_call 17; refine HRR.out.mono ?_; rintro e wq ⟨rfl, rfl⟩) | (go_at_call 18; refine HRD.out.mono ?_; rintro e w7 ⟨rfl, b7⟩; have T7 := hid (TZ.out.below b7)) | (go_at_call 8; refine (HBE.out _ T7.out.keep).mono ?_; rintro e w8 ⟨rfl, b8⟩))
            go_roundw
            case rel => exact ⟨j + 1, by omega, by go_num, BZ.out.trans ((b7.mono BZ.out.size).trans (b8.mono (Nat.le_trans BZ.out.size b7.size)))⟩
            case measure => simp [intOf]; omega
          · obtain rfl : j = 7 := by omega
            go_wp2
            go_roundw
            case rel => exact ⟨k + 1, _, _, _, _, by omega, by go_num, TZ.out, N5.out, M5.out⟩
            case measure => simp [intOf]; omega
      by_cases q3 : wh = 3
      · subst q3
        have HLK : Hid (∀ w' : World, Keep [] W w' → Lst w' (.slice ka ks.length kc) (bl ks)) := hid (fun w' hk => HOO.out.lst.keep hk (by simp))
        have HKL : Hid (ks.length ≤ 1000000) := hid (by omega)
        have HV0 : Hid (ks = [] ∨ ∀ g, W.heap.size ≤ g → (Value.slice ka ks.length kc).ownBlock ≠ some g) := hid (far_of HOO.out.lst)
        have HV1 : Hid (ks = [] ∨ (Value.slice ka ks.length kc).ownBlock ≠ some S) := hid (HV0.out.imp id (fun f => f S (TT.out.nx S (by simp [blocks]))))
        have HV2 : Hid (ks = [] ∨ ∀ g, (Value.slice (some ⟨gS, 0, none⟩) n cS).ownBlock = some g → (Value.slice ka ks.length kc).ownBlock ≠ some g) := hid (HV0.out.imp id (fun f g hg => f g (TT.out.ny g (mem_rb.2 (Or.inr (Or.inl hg))))))
        have HS1 := hid (crash_any D S vw _ d ks w1 T1.out.disk (HLK.out w1 T1.out.keep) HKL.out HV1.out)
        go_wp2_with (first | (refine wpList_load_mid rfl 35 (.tmp 53) rfl b (o + k * 4) rfl cs _ HRG.out Tryd.underlying35 rfl HT3.out ?_) | (refine wpList_store_mid rfl 35 (.tmp 10) (.tmp 54) rfl X 0 cs.toArray rfl rfl HT1.out HT2.out (all_oneCell_toArray HC1.out) ?_; rw [show cs.toArray.toList = cs from rfl, hw1]) | (go_at_call 15; refine HS1.out.mono ?_; rintro e w2 ⟨rfl, a2, k2⟩; have T2 := hid (T1.out.dstep a2 (keep_ds (X := []) k2) blk_none); have HD2 := hid (HD1.out.dstep (keep_ds (X := []) k2) blk_none); have HRS := hid (rcrash_any R _ vA vW _ d ks w2 T2.out.ref (HLK.out w2 T2.out.keep) HKL.out HV2.out); have z3 := (HYY.out w2 HD2.out.blk).2.2; clear a2 k2) | (go_at_call 16; refine HRS.out.mono ?_; rintro e w4 ⟨rfl, a3, k3⟩; have T4 := hid (T2.out.rstep a3 (keep_rs k3) rb_none); have HD4 := hid (HD2.out.rstep (keep_rs k3) rb_none); clear a3 k3))
        obtain ⟨dt, hdt⟩ : ∃ dt, (⟨(d.settled (keptL ks)).sure, [], -1⟩ : St) = dt := ⟨_, rfl⟩
        have N5 : Hid (dt.sure.length = n) := hid (by rw [← hdt]; exact (by rw [St.settled, settle_len]; exact D1.out))
        have M5 : Hid (dt.ws.length ≤ k + 1) := hid (by rw [← hdt]; exact Nat.zero_le _)
        rw [hdt] at T4
        clear hdt
        have x1 := (HYY.out w4 HD4.out.blk).1
        have r0 := T4.out.ref.c0
        have HZ5 : Hid (∀ o : Obj, (w4.drew.alloc o).cell? ⟨X, 1, none⟩ = some (.int .i64 ax) ∧ (w4.drew.alloc o).cell? ⟨R, 0, none⟩ = some (.slice (some ⟨gS, 0, none⟩) n cS)) := hid (fun o => ⟨(HYY.out _ (HD4.out.drew.blk.alloc o)).1, (T4.out.drew.ref.head.alloc o).cell 0 rfl⟩)
        go_region_held3 (fun w' => w'.cell? ⟨X, 1, none⟩ = some (.int .i64 ax) ∧ w'.cell? ⟨R, 0, none⟩ = some (.slice (some ⟨gS, 0, none⟩) n cS)) (first | exact ⟨x1, r0⟩ | exact HZ5.out _) (fail)
        go_wp2
        obtain ⟨w6, hw6⟩ : ∃ w6, (w4.alloc (.cells #[.int .i64 ax, .int .i64 0, .int .i64 1, .int .i64 7, .int .i64 (IntKind.i64.wrap ((n : Int) - 1)), .int .i64 (n : Int), .int .i64 (-1)] 3)).drew = w6 := ⟨_, rfl⟩
        have T6 := hid ((T4.out.below ((Below.refl _ w4).alloc (Nat.le_refl _) (.cells #[.int .i64 ax, .int .i64 0, .int .i64 1, .int .i64 7, .int .i64 (IntKind.i64.wrap ((n : Int) - 1)), .int .i64 (n : Int), .int .i64 (-1)] 3))).drew)
        have P6 : Hid (Blk w6 w4.heap.size [.int .i64 ax, .int .i64 0, .int .i64 1, .int .i64 7, .int .i64 (IntKind.i64.wrap ((n : Int) - 1)), .int .i64 (n : Int), .int .i64 (-1)]) := hid (by
          rw [← hw6]
          exact (Blk.new w4 [.int .i64 ax, .int .i64 0, .int .i64 1, .int .i64 7, .int .i64 (IntKind.i64.wrap ((n : Int) - 1)), .int .i64 (n : Int), .int .i64 (-1)] 3 _ rfl).block rfl)
        rw [hw6] at T6
        rw [hw6]
        obtain ⟨P, hP⟩ : ∃ P, w4.heap.size = P := ⟨_, rfl⟩
        rw [hP] at P6
        rw [hP]
        clear hw6 hP HZ5 x1 r0
        go_loopw [126] (fun i wz => ∃ j : Nat, j ≤ 7 ∧ i = .int .i64 j ∧ Below w6.heap.size w6 wz) (fun i wz => 7 - (intOf i).toNat)
        case atStart => exact ⟨0, by omega, rfl, Below.refl _ _⟩
        case round =>
          obtain ⟨j, hj, rfl, hbz⟩ := hrel
          have TZ := hid (T6.out.below hbz)
          have BZ := hid hbz
          clear hbz
          by_cases hj7 : j < 7
          · obtain ⟨pa, hpa⟩ : ∃ pa, wr.cell? ⟨P, j, none⟩ = some (.int .i64 pa) := at_seven hj7 (P6.out.below BZ.out)
            have hjI : (j : Int) < 7 := by omega
            obtain ⟨sT, hsT⟩ : ∃ sT, rdT dt pa = sT := ⟨_, rfl⟩
            obtain ⟨eI, heI⟩ : ∃ eI, rdE dt pa = eI := ⟨_, rfl⟩
            obtain ⟨eV, heV⟩ : ∃ eV, errV eI = eV := ⟨_, rfl⟩
            have HRR := hid (rread_at R _ _ _ dt pa wr TZ.out.ref)
            have HRD := hid (read_at D S _ dt pa wr TZ.out.disk)
            rw [hsT, heI] at HRR HRD
            rw [heV] at HRD
            have HBE := hid (fun (w : World) (hb : Keep [] W w) => HB.out eI w hb)
            rw [heV] at HBE
            clear hsT heI heV
            go_wp2_with (first | (go_at_call 17; refine HRR.out.mono ?_; rintro e wq ⟨rfl, rfl⟩) | (go_at_call 18; refine HRD.out.mono ?_; rintro e w7 ⟨rfl, b7⟩; have T7 := hid (TZ.out.below b7)) | (go_at_call 8; refine (HBE.out _ T7.out.keep).mono ?_; rintro e w8 ⟨rfl, b8⟩))
            go_roundw
            case rel => exact ⟨j + 1, by omega, by go_num, BZ.out.trans ((b7.mono BZ.out.size).trans (b8.mono (Nat.le_trans BZ.out.size b7.size)))⟩
            case measure => simp [intOf]; omega
          · obtain rfl : j = 7 := by omega
            go_wp2
            go_roundw
            case rel => exact ⟨k + 1, _, _, _, _, by omega, by go_num, TZ.out, N5.out, M5.out⟩
            case measure => simp [intOf]; omega
      have q0I : (wh == 0) = false := by simp [q0]
      have q1I : (wh == 1) = false := by simp [q1]
      have q2I : (wh == 2) = false := by simp [q2]
      have q3I : (wh == 3) = false := by simp [q3]
      go_wp2_with (first | (refine wpList_load_mid rfl 35 (.tmp 53) rfl b (o + k * 4) rfl cs _ HRG.out Tryd.underlying35 rfl HT3.out ?_) | (refine wpList_store_mid rfl 35 (.tmp 10) (.tmp 54) rfl X 0 cs.toArray rfl rfl HT1.out HT2.out (all_oneCell_toArray HC1.out) ?_; rw [show cs.toArray.toList = cs from rfl, hw1]))
      obtain ⟨dt, hdt⟩ : ∃ dt, d = dt := ⟨_, rfl⟩
      have N5 : Hid (dt.sure.length = n) := hid (by rw [← hdt]; exact D1.out)
      have M5 : Hid (dt.ws.length ≤ k + 1) := hid (by rw [← hdt]; exact Nat.le_succ_of_le D2.out)
      rw [hdt] at T1
      clear hdt
      have x1 := (HYY.out w1 HD1.out.blk).1
      have r0 := T1.out.ref.c0
      have HZ5 : Hid (∀ o : Obj, (w1.drew.alloc o).cell? ⟨X, 1, none⟩ = some (.int .i64 ax) ∧ (w1.drew.alloc o).cell? ⟨R, 0, none⟩ = some (.slice (some ⟨gS, 0, none⟩) n cS)) := hid (fun o => ⟨(HYY.out _ (HD1.out.drew.blk.alloc o)).1, (T1.out.drew.ref.head.alloc o).cell 0 rfl⟩)
      go_region_held3 (fun w' => w'.cell? ⟨X, 1, none⟩ = some (.int .i64 ax) ∧ w'.cell? ⟨R, 0, none⟩ = some (.slice (some ⟨gS, 0, none⟩) n cS)) (first | exact ⟨x1, r0⟩ | exact HZ5.out _) (fail)
      go_wp2
      obtain ⟨w6, hw6⟩ : ∃ w6, (w1.alloc (.cells #[.int .i64 ax, .int .i64 0, .int .i64 1, .int .i64 7, .int .i64 (IntKind.i64.wrap ((n : Int) - 1)), .int .i64 (n : Int), .int .i64 (-1)] 3)).drew = w6 := ⟨_, rfl⟩
      have T6 := hid ((T1.out.below ((Below.refl _ w1).alloc (Nat.le_refl _) (.cells #[.int .i64 ax, .int .i64 0, .int .i64 1, .int .i64 7, .int .i64 (IntKind.i64.wrap ((n : Int) - 1)), .int .i64 (n : Int), .int .i64 (-1)] 3))).drew)
      have P6 : Hid (Blk w6 w1.heap.size [.int .i64 ax, .int .i64 0, .int .i64 1, .int .i64 7, .int .i64 (IntKind.i64.wrap ((n : Int) - 1)), .int .i64 (n : Int), .int .i64 (-1)]) := hid (by
        rw [← hw6]
        exact (Blk.new w1 [.int .i64 ax, .int .i64 0, .int .i64 1, .int .i64 7, .int .i64 (IntKind.i64.wrap ((n : Int) - 1)), .int .i64 (n : Int), .int .i64 (-1)] 3 _ rfl).block rfl)
      rw [hw6] at T6
      rw [hw6]
      obtain ⟨P, hP⟩ : ∃ P, w1.heap.size = P := ⟨_, rfl⟩
      rw [hP] at P6
      rw [hP]
      clear hw6 hP HZ5 x1 r0
      go_loopw [126] (fun i wz => ∃ j : Nat, j ≤ 7 ∧ i = .int .i64 j ∧ Below w6.heap.size w6 wz) (fun i wz => 7 - (intOf i).toNat)
      case atStart => exact ⟨0, by omega, rfl, Below.refl _ _⟩
      case round =>
        obtain ⟨j, hj, rfl, hbz⟩ := hrel
        have TZ := hid (T6.out.below hbz)
        have BZ := hid hbz
        clear hbz
        by_cases hj7 : j < 7
        · obtain ⟨pa, hpa⟩ : ∃ pa, wr.cell? ⟨P, j, none⟩ = some (.int .i64 pa) := at_seven hj7 (P6.out.below BZ.out)
          have hjI : (j : Int) < 7 := by omega
          obtain ⟨sT, hsT⟩ : ∃ sT, rdT dt pa = sT := ⟨_, rfl⟩
          obtain ⟨eI, heI⟩ : ∃ eI, rdE dt pa = eI := ⟨_, rfl⟩
          obtain ⟨eV, heV⟩ : ∃ eV, errV eI = eV := ⟨_, rfl⟩
          have HRR := hid (rread_at R _ _ _ dt pa wr TZ.out.ref)
          have HRD := hid (read_at D S _ dt pa wr TZ.out.disk)
          rw [hsT, heI] at HRR HRD
          rw [heV] at HRD
          have HBE := hid (fun (w : World) (hb : Keep [] W w) => HB.out eI w hb)
          rw [heV] at HBE
          clear hsT heI heV
          go_wp2_with (first | (go_at_call 17; refine HRR.out.mono ?_; rintro e wq ⟨rfl, rfl⟩) | (go_at_call 18; refine HRD.out.mono ?_; rintro e w7 ⟨rfl, b7⟩; have T7 := hid (TZ.out.below b7)) | (go_at_call 8; refine (HBE.out _ T7.out.keep).mono ?_; rintro e w8 ⟨rfl, b8⟩))
          go_roundw
          case rel => exact ⟨j + 1, by omega, by go_num, BZ.out.trans ((b7.mono BZ.out.size).trans (b8.mono (Nat.le_trans BZ.out.size b7.size)))⟩
          case measure => simp [intOf]; omega
        · obtain rfl : j = 7 := by omega
          go_wp2
          go_roundw
          case rel => exact ⟨k + 1, _, _, _, _, by omega, by go_num, TZ.out, N5.out, M5.out⟩
          case measure => simp [intOf]; omega
    · obtain rfl : k = m := by omega
      have HSZ := hid (size_any D S vw d wr.drew TT.out.drew.disk)
      rw [D1.out] at HSZ
      have r0 := TT.out.ref.c0
      go_wp2
      go_region_held3 (fun w' => w'.cell? ⟨R, 0, none⟩ = some (.slice (some ⟨gS, 0, none⟩) n cS)) (exact r0) (first | (go_at_call 19; refine HSZ.out.mono ?_; rintro e wq ⟨rfl, rfl⟩))
      go_wp2
      go_ret
      exact ⟨rfl, TT.out.drew.done⟩
end Go.Proofs.YtgmngifnilmheaaDoor.Dk
