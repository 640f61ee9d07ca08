import Derived.Test.YtajkjhkjgibcfaaDoorFlwZa
set_option linter.unusedSimpArgs false
set_option linter.unusedVariables false
namespace Go.Proofs.YtajkjhkjgibcfaaDoor
open Go.RowKit

set_option maxRecDepth 100000 in
set_option maxHeartbeats 1600000 in
theorem print_any (f : Flw) (vi vj vo : Value) (w : World) (h : FlowRd w f vi vj vo) (hf : FlwOK f) (hE : FEnv w) :
    Calls Tryd.prog 7 #[.agg #[vi, vj, vo]] w fun e w' => e = .returned (.string (ba (printF f))) ∧ Below w.heap.size w w' := by
  obtain ⟨ia, ic, rfl⟩ := row_slice h.ins
  obtain ⟨ja, jc, rfl⟩ := row_slice h.jobs
  obtain ⟨oa, oc, rfl⟩ := row_slice h.outs
  have hil := hf.il
  have hjl := hf.jl
  have hol := hf.ol
  obtain ⟨w1, hw1⟩ : ∃ x, x = w.alloc (.cells #[.slice ia f.ins.length ic, .slice ja f.jobs.length jc, .slice oa f.outs.length oc] 27) := ⟨_, rfl⟩
  have hws : w1.heap.size = w.heap.size + 1 := by rw [hw1]; simp
  have HB1 : Hid (Below w.heap.size w w1) := Hid.mk (by rw [hw1]; exact below_box _ _)
  have HX : Hid (Box w1 w.heap.size [.slice ia f.ins.length ic, .slice ja f.jobs.length jc, .slice oa f.outs.length oc]) := Hid.mk (by rw [hw1]; exact Box.new w _ _ _ rfl)
  have HV := Hid.mk (And.intro (h.below HB1.out) (And.intro hf (hE.belowW HB1.out)))
  have hxw : ∀ wr, Below w1.heap.size w1 wr → Box wr w.heap.size [.slice ia f.ins.length ic, .slice ja f.jobs.length jc, .slice oa f.outs.length oc] := fun wr hb => HX.out.below hb
  have HXW := Hid.mk hxw
  have hwr : ∀ (V : World) (l : By) (s : ByteArray), PrS w1 V l → l.length + s.size ≤ 140737488355328 → Calls Tryd.prog 12 #[.pointer (some ⟨w.heap.size + 1, 0, none⟩), .string s] V fun e w' => e = .returned (.tuple #[.int .i64 s.size, .nilIface]) ∧ PrS w1 w' (l ++ s.data.toList) ∧ Lib.OthersKept 5 (some (w.heap.size + 1)) V w' := fun V l s h hl => by
    have := wstr_any w1 V l s h hl
    rwa [hws] at this
  have HWR := Hid.mk hwr
  have hbs : ∀ (V : World) (l : By), PrS w1 V l → Calls Tryd.prog 17 #[.pointer (some ⟨w.heap.size + 1, 0, none⟩)] V fun e w' => e = .returned (.string (ba l)) ∧ Below w.heap.size w w' := fun V l h => by
    have := bstr_any w1 V l h
    rw [hws] at this
    refine this.mono ?_
    rintro e w' ⟨rfl, hb⟩
    exact ⟨rfl, HB1.out.trans (hb.mono (by omega))⟩
  have HBS := Hid.mk hbs
  clear hwr hbs
  clear h hf hE hxw
  go_enter Tryd.func7, Tryd.ntmps7
  go_wp2
  rw [← hw1]
  go_loopw [13] (fun i wr => ∃ k : Nat, k ≤ f.ins.length ∧ i = .int .i64 k ∧ PrS w1 wr ((f.ins.take k).flatMap inLn)) (fun i _ => f.ins.length - (intOf i).toNat)
  case atStart => exact ⟨0, Nat.zero_le _, rfl, PrS.new w1⟩
  case round =>
    obtain ⟨k, hk, rfl, hps⟩ := hrel
    have HP := Hid.mk hps
    have hls := hps.lt
    by_cases hlt : k < f.ins.length
    · obtain ⟨hr, hv, hE⟩ := HV.out
      rcases hr.ins with ⟨-, e0⟩ | ⟨b, c', e0, hcap, hb, hcell⟩
      · rw [e0] at hlt; exact absurd hlt (by simp)
      simp only [Value.slice.injEq, true_and] at e0
      obtain ⟨rfl, rfl⟩ := e0
      obtain ⟨a, v, ha, e0, e1, e2, hcr⟩ := hcell k hlt
      have d0 := (hps.2.cell (p := ⟨b, k * 3, none⟩) hb).trans e0
      have d1 := (hps.2.cell (p := ⟨b, k * 3 + 1, none⟩) hb).trans e1
      have d2 := (hps.2.cell (p := ⟨b, k * 3 + 2, none⟩) hb).trans e2
      obtain ⟨ca, cc, rfl⟩ := cols_slice hcr
      have hin := hv.ins a (List.mem_of_getElem? ha)
      have hnl : (ba a.name).size ≤ 10 := by rw [ba_size]; exact hin.1
      have hcl : (ba (colsL a.cols)).size ≤ 1002000 := by
        rw [ba_size]
        exact listL_len (a.cols.map colL) (by rw [List.length_map]; exact hin.2.1) (by
          intro x hx
          rw [List.mem_map] at hx
          obtain ⟨y, hy, rfl⟩ := hx
          exact colL_len (hin.2.2 y hy))
      have HC : Hid (∀ V, Below wr.heap.size wr V → Calls Tryd.prog 13 #[.slice ca a.cols.length cc] V fun e w' => e = .returned (.string (ba (colsL a.cols))) ∧ Below V.heap.size V w') := Hid.mk fun V hV => columnsw_any _ _ V (hcr.below (bel_then hps.2 hV)) hin.2.1 hin.2.2 (hE.belowW (bel_then hps.2 hV))
      have HT : Hid ((f.ins.take k).flatMap inLn ++ (⟨#[105, 110, 32]⟩ ++ ba a.name ++ ⟨#[58, 32]⟩ ++ ba (colsL a.cols) ++ ⟨#[59, 10]⟩ : ByteArray).data.toList = (f.ins.take (k + 1)).flatMap inLn) := Hid.mk (by
        rw [← take_flat ha]
        simp [inLn, wIn])
      have hpl : ((f.ins.take k).flatMap inLn).length ≤ 1003000 * 16 := flat_take_len _ _ (fun x hx => inLn_size (hv.ins x hx)) hil
      have HL := Hid.mk (And.intro hpl hnl)
      generalize (f.ins.take k).flatMap inLn = PL at *
      generalize hNM : ba a.name = nm at *
      generalize hCM : ba (colsL a.cols) = cm at *
      generalize a.at_ = ax at *
      generalize a.cols.length = cn at *
      have HN := Hid.mk hNM
      have HM := Hid.mk hCM
      have HQ := Hid.mk (And.intro hlt hin)
      clear hcell e0 e1 e2 hNM hCM hpl hin ha hcr hE hv hr hps
      go_wp2
      have HK0 : Hid ((wr.alloc (.cells #[.int .i64 (ax : Nat), .string nm, .slice ca cn cc] 51)).heap[wr.heap.size]? = some (.cells #[.int .i64 (ax : Nat), .string nm, .slice ca cn cc] 51 (0, 0))) := Hid.mk (heap_alloc_new _ _)
      have z1 : ¬ 9223372036854775807 < 3 + nm.size := by omega
      have z2 : ¬ 9223372036854775807 < 3 + nm.size + 2 := by omega
      have z3 : ¬ 9223372036854775807 < 3 + nm.size + 2 + cm.size := by omega
      have z4 : ¬ 9223372036854775807 < 3 + nm.size + 2 + cm.size + 2 := by omega
      have y1 := blk_cell (i := 1) HK0.out rfl
      have y2 := blk_cell (i := 2) HK0.out rfl
      go_region_held3 (fun V => V.cell? ⟨wr.heap.size, 1, none⟩ = some (.string nm) ∧ V.cell? ⟨wr.heap.size, 2, none⟩ = some (.slice ca cn cc)) (first | exact ⟨y1, y2⟩ | exact G2.out | exact G3.out) (first | (go_at_call 13; refine (HC.out _ (below_box _ _).drew).mono ?_; rintro e w2 ⟨rfl, hb2⟩; have HB2 := Hid.mk hb2; have K2 := Hid.mk ((hb2.block wr.heap.size (by simp)).trans HK0.out); have G2 := Hid.mk (And.intro (blk_cell (i := 1) K2.out rfl) (blk_cell (i := 2) K2.out rfl)); have P2 := Hid.mk (HP.out.then (bel_then (below_box _ _).drew hb2)); clear hb2) | (go_at_call 12; refine (HWR.out _ _ _ P2.out (pr_len1 HL.out.1 HL.out.2 hcl)).mono ?_; rintro e w3 ⟨rfl, hp3, ho3⟩; have P3 := Hid.mk hp3; have K3 := Hid.mk (kept_blk ho3 K2.out (by omega) (by decide)); have G3 := Hid.mk (And.intro (blk_cell (i := 1) K3.out rfl) (blk_cell (i := 2) K3.out rfl)); clear hp3 ho3))
      go_wp2
      go_roundw
      case rel => exact ⟨k + 1, by omega, by go_num, by have := P3.out; rw [HT.out] at this; exact this⟩
      case measure => simp [intOf]; omega
    · have hke : k = f.ins.length := by omega
      subst hke
      rw [List.take_of_length_le (Nat.le_refl _)] at hps
      obtain ⟨wa, rfl⟩ : ∃ x, x = wr := ⟨_, rfl⟩
      have HPa := Hid.mk hps
      have c1 := (HXW.out wa hps.2).cell 1 rfl
      clear hps HP
      go_wp2
      go_loopw [31] (fun i wr => ∃ k : Nat, k ≤ f.jobs.length ∧ i = .int .i64 k ∧ PrS w1 wr (f.ins.flatMap inLn ++ (f.jobs.take k).flatMap jobLn)) (fun i _ => f.jobs.length - (intOf i).toNat)
      case atStart => exact ⟨0, Nat.zero_le _, rfl, by simpa using HPa.out⟩
      case round =>
        obtain ⟨k, hk, rfl, hps⟩ := hrel
        have HP := Hid.mk hps
        have hls := hps.lt
        by_cases hlt : k < f.jobs.length
        · obtain ⟨hr, hv, hE⟩ := HV.out
          rcases hr.jobs with ⟨-, e0⟩ | ⟨b, c', e0, hcap, hb, hcell⟩
          · rw [e0] at hlt; exact absurd hlt (by simp)
          simp only [Value.slice.injEq, true_and] at e0
          obtain ⟨rfl, rfl⟩ := e0
          obtain ⟨a, vo, vi, vc, ha, hcs, ho, hi, hc⟩ := hcell k hlt
          have hra : wr.rangeAt b (k * 15) (jobV a vo vi vc) := fun j u hj => (hps.2.cell (p := ⟨b, k * 15 + j, none⟩) hb).trans (hcs j u hj)
          have hjb := hv.jobs a (List.mem_of_getElem? ha)
          obtain ⟨oa', oc', rfl⟩ := strs_slice ho
          obtain ⟨ia', ic', rfl⟩ := strs_slice hi
          obtain ⟨ca', cc', rfl⟩ := strs_slice hc
          have HJ : Hid (∀ V, Below wr.heap.size wr V → Calls Tryd.prog 14 #[.slice oa' a.outs.length oc', .string ⟨#[44, 32]⟩] V fun e w' => e = .returned (.string (ba (listL a.outs))) ∧ Below V.heap.size V w') := Hid.mk fun V hV => joinW_any _ _ V (ho.below (bel_then hps.2 hV)) hjb.ol hjb.os
          have HR : Hid (∀ V, Below wr.heap.size wr V → Calls Tryd.prog 15 #[.int .i64 a.retry] V fun e w' => e = .returned (.string (ba (retryL a.retry))) ∧ Below V.heap.size V w') := Hid.mk fun V hV => retryw_any _ V (by have := hjb.rt; omega) (by have := hjb.rt; omega) (hE.belowW (bel_then hps.2 hV))
          have HTX : Hid (∀ V, Below wr.heap.size wr V → Calls Tryd.prog 16 #[.agg (jobV a (.slice oa' a.outs.length oc') (.slice ia' a.ins.length ic') (.slice ca' a.cols.length cc')).toArray] V fun e w' => e = .returned (.string (ba (jobL a))) ∧ Below V.heap.size V w') := Hid.mk fun V hV => text_any a _ _ _ V (ho.below (bel_then hps.2 hV)) (hi.below (bel_then hps.2 hV)) (hc.below (bel_then hps.2 hV)) (hE.belowW (bel_then hps.2 hV)) hjb
          have HT : Hid (f.ins.flatMap inLn ++ (f.jobs.take k).flatMap jobLn ++ (⟨#[106, 111, 98, 32]⟩ ++ ba (listL a.outs) ++ ba (retryL a.retry) ++ ⟨#[32, 61, 32]⟩ ++ ba (jobL a) ++ ⟨#[59, 10]⟩ : ByteArray).data.toList = f.ins.flatMap inLn ++ (f.jobs.take (k + 1)).flatMap jobLn) := Hid.mk (by
            rw [← take_flat ha]
            simp [jobLn, wJob])
          have hpl : (f.ins.flatMap inLn ++ (f.jobs.take k).flatMap jobLn).length ≤ 1003000 * 16 + 3000000 * 16 := by
            have h1 := flat_take_len (f := inLn) f.ins f.ins.length (fun x hx => inLn_size (hv.ins x hx)) hil
            rw [List.take_of_length_le (Nat.le_refl _)] at h1
            have h2 := flat_take_len (f := jobLn) f.jobs k (fun x hx => jobL_len (hv.jobs x hx)) hjl
            rw [List.length_append]
            omega
          have hsz := jobLn_parts hjb
          have hsz1 := hsz.1
          have hsz2 := hsz.2.1
          have hsz3 := hsz.2.2
          have HL := Hid.mk hpl
          have hJ2 : (jobV a (.slice oa' a.outs.length oc') (.slice ia' a.ins.length ic') (.slice ca' a.cols.length cc'))[2]? = some (.slice oa' a.outs.length oc') := rfl
          have hJ14 : (jobV a (.slice oa' a.outs.length oc') (.slice ia' a.ins.length ic') (.slice ca' a.cols.length cc'))[14]? = some (.int .i64 a.retry) := rfl
          have hone : (jobV a (.slice oa' a.outs.length oc') (.slice ia' a.ins.length ic') (.slice ca' a.cols.length cc')).toArray.all (·.oneCell') = true := by simp [jobV, Value.oneCell']
          have hJl : (jobV a (.slice oa' a.outs.length oc') (.slice ia' a.ins.length ic') (.slice ca' a.cols.length cc')).length = 15 := rfl
          generalize jobV a (.slice oa' a.outs.length oc') (.slice ia' a.ins.length ic') (.slice ca' a.cols.length cc') = JL at *
          generalize f.ins.flatMap inLn ++ (f.jobs.take k).flatMap jobLn = PL at *
          generalize ba (listL a.outs) = so at *
          generalize ba (retryL a.retry) = sr at *
          generalize ba (jobL a) = sj at *
          generalize a.outs.length = on at *
          generalize a.retry = rt at *
          have HON := Hid.mk hone
          have HJl := Hid.mk hJl
          have HRA := Hid.mk hra
          have HJ2 := Hid.mk hJ2
          have HJ14 := Hid.mk hJ14
          have HI2 : Hid ((Tryd.prog.info? 61).map (·.size) = some JL.length) := Hid.mk (by rw [hJl]; exact job_info)
          have HTH : Hid ((wr.alloc (.cells zeroJ 61)).there wr.heap.size 0 JL.toArray.size) := Hid.mk (by
            have h15 : JL.toArray.size = 15 := hJl
            rw [h15]
            exact job_there wr)
          obtain ⟨w2, hw2⟩ : ∃ x, x = (wr.alloc (.cells zeroJ 61)).setCells wr.heap.size 0 JL := ⟨_, rfl⟩
          have HB2 : Hid (Below wr.heap.size wr w2) := Hid.mk (by rw [hw2]; exact (below_box _ _).trans (below_setCells (Nat.le_refl _) _ _ _))
          have HK0 : Hid (w2.heap[wr.heap.size]? = some (.cells JL.toArray 61 (0, 0))) := Hid.mk (by rw [hw2]; exact job_stored wr JL hJl)
          have hq2 : w2.heap.size = wr.heap.size + 1 := by rw [hw2, size_sets]; simp
          have HQ := Hid.mk (And.intro hlt hjb)
          have HW2 := Hid.mk hw2
          clear hcell hcs hpl hsz hjb ha ho hi hc hE hv hr hps hra hJ2 hJ14 hone hJl hw2
          go_wp2_with (first | (refine wpList_load_mid rfl 61 (.tmp 33) rfl b (k * 15) rfl JL _ HRA.out Tryd.underlying61 rfl HI2.out ?_) | (refine wpList_store_mid rfl 61 (.tmp 7) (.tmp 34) rfl wr.heap.size 0 JL.toArray rfl rfl HTH.out HI2.out HON.out ?_; rw [show JL.toArray.toList = JL from rfl, ← HW2.out]))
          simp only [Act.put]
          have z1 : ¬ 9223372036854775807 < 4 + so.size := by omega
          have z2 : ¬ 9223372036854775807 < 4 + so.size + sr.size := by omega
          have z3 : ¬ 9223372036854775807 < 4 + so.size + sr.size + 3 := by omega
          have z4 : ¬ 9223372036854775807 < 4 + so.size + sr.size + 3 + sj.size := by omega
          have z5 : ¬ 9223372036854775807 < 4 + so.size + sr.size + 3 + sj.size + 2 := by omega
          refine wp_region_held_drew (S := fun V => V.heap[wr.heap.size]? = some (.cells JL.toArray 61 (0, 0))) (by kernel_rfl) HK0.out (fun hH => ?_)
          refine wpAnyH_take (i := 0) (v := .pointer (some ⟨wr.heap.size, 2, none⟩)) rfl (by kernel_rfl) (by kernel_rfl) (by kernel_rfl) (fun _ _ _ h => h) (Or.inl ⟨by rfl, ?_⟩) (by assumption) ?_
          · intro V hV
            go_simp
          simp only [List.getElem_toArray, List.getElem_cons_zero, List.getElem_cons_succ, Act.put, List.setIfInBounds_toArray, List.set_cons_zero, List.set_cons_succ]
          refine wpAnyH_take (i := 1) (v := .slice oa' on oc') rfl (by kernel_rfl) (by kernel_rfl) (by kernel_rfl) (fun _ _ _ h => h) (Or.inl ⟨by rfl, ?_⟩) (by assumption) ?_
          · intro V hV
            have q2 := blk_cell (i := 2) hV (by simpa using HJ2.out)
            go_simp
          simp only [List.getElem_toArray, List.getElem_cons_zero, List.getElem_cons_succ, Act.put, List.setIfInBounds_toArray, List.set_cons_zero, List.set_cons_succ]
          refine wpAnyH_take (i := 4) (v := .pointer (some ⟨wr.heap.size, 14, none⟩)) rfl (by kernel_rfl) (by kernel_rfl) (by kernel_rfl) (fun _ _ _ h => h) (Or.inl ⟨by rfl, ?_⟩) (by assumption) ?_
          · intro V hV
            go_simp
          simp only [List.getElem_toArray, List.getElem_cons_zero, List.getElem_cons_succ, Act.put, List.setIfInBounds_toArray, List.set_cons_zero, List.set_cons_succ]
          refine wpAnyH_take (i := 5) (v := .int .i64 rt) rfl (by kernel_rfl) (by kernel_rfl) (by kernel_rfl) (fun _ _ _ h => h) (Or.inl ⟨by rfl, ?_⟩) (by assumption) ?_
          · intro V hV
            have q14 := blk_cell (i := 14) hV (by simpa using HJ14.out)
            go_simp
          simp only [List.getElem_toArray, List.getElem_cons_zero, List.getElem_cons_succ, Act.put, List.setIfInBounds_toArray, List.set_cons_zero, List.set_cons_succ]
          refine wpAnyH_take (i := 9) (v := .agg JL.toArray) rfl (by kernel_rfl) (by kernel_rfl) (by kernel_rfl) (fun _ _ _ h => h) (yieldsIf_load_mid (by rfl) 61 (.tmp 7) rfl wr.heap.size 0 rfl JL _ (fun V hV => Box.range ⟨_, hV⟩) Tryd.underlying61 rfl HI2.out) (by assumption) ?_
          simp only [List.getElem_toArray, List.getElem_cons_zero, List.getElem_cons_succ, Act.put, List.setIfInBounds_toArray, List.set_cons_zero, List.set_cons_succ]
          refine wpAnyH_ready (rs := [2]) (by kernel_rfl) (by simp) ?_
          refine AllReadyH.cons rfl (fun K hK => ?_) AllReadyH.nil
          go_simp
          refine (HJ.out _ HB2.out.drew).mono ?_
          rintro e w3 ⟨rfl, hb3⟩
          have B3 := Hid.mk (bel_then HB2.out.drew hb3)
          have K3 := Hid.mk ((hb3.block wr.heap.size (by show _ < w2.heap.size; omega)).trans HK0.out)
          have q3 : wr.heap.size < w3.heap.size := lt_size hb3.size (by show _ < w2.heap.size; omega)
          clear hb3
          refine hK.out _ _ K3.out (fun hH => ?_)
          clear hK K
          try simp only [List.getElem_toArray, List.getElem_cons_zero, List.getElem_cons_succ, Act.put, List.setIfInBounds_toArray, List.set_cons_zero, List.set_cons_succ]
          refine wpAnyH_take (i := 3) (v := .string (⟨#[106, 111, 98, 32]⟩ ++ so)) rfl (by kernel_rfl) (by kernel_rfl) (by kernel_rfl) (fun _ _ _ h => h) (Or.inl ⟨by rfl, ?_⟩) (by assumption) ?_
          · intro V hV
            go_simp
          simp only [List.getElem_toArray, List.getElem_cons_zero, List.getElem_cons_succ, Act.put, List.setIfInBounds_toArray, List.set_cons_zero, List.set_cons_succ]
          refine wpAnyH_ready (rs := [6]) (by kernel_rfl) (by simp) ?_
          refine AllReadyH.cons rfl (fun K hK => ?_) AllReadyH.nil
          go_simp
          refine (HR.out _ B3.out).mono ?_
          rintro e w4 ⟨rfl, hb4⟩
          have B4 := Hid.mk (bel_then B3.out hb4)
          have K4 := Hid.mk ((hb4.block wr.heap.size q3).trans K3.out)
          have q4 := lt_size hb4.size q3
          clear hb4
          refine hK.out _ _ K4.out (fun hH => ?_)
          clear hK K
          try simp only [List.getElem_toArray, List.getElem_cons_zero, List.getElem_cons_succ, Act.put, List.setIfInBounds_toArray, List.set_cons_zero, List.set_cons_succ]
          refine wpAnyH_take (i := 7) (v := .string (⟨#[106, 111, 98, 32]⟩ ++ so ++ sr)) rfl (by kernel_rfl) (by kernel_rfl) (by kernel_rfl) (fun _ _ _ h => h) (Or.inl ⟨by rfl, ?_⟩) (by assumption) ?_
          · intro V hV
            go_simp
          simp only [List.getElem_toArray, List.getElem_cons_zero, List.getElem_cons_succ, Act.put, List.setIfInBounds_toArray, List.set_cons_zero, List.set_cons_succ]
          refine wpAnyH_take (i := 8) (v := .string (⟨#[106, 111, 98, 32]⟩ ++ so ++ sr ++ ⟨#[32, 61, 32]⟩)) rfl (by kernel_rfl) (by kernel_rfl) (by kernel_rfl) (fun _ _ _ h => h) (Or.inl ⟨by rfl, ?_⟩) (by assumption) ?_
          · intro V hV
            go_simp
          simp only [List.getElem_toArray, List.getElem_cons_zero, List.getElem_cons_succ, Act.put, List.setIfInBounds_toArray, List.set_cons_zero, List.set_cons_succ]
          refine wpAnyH_ready (rs := [10]) (by kernel_rfl) (by simp) ?_
          refine AllReadyH.cons rfl (fun K hK => ?_) AllReadyH.nil
          go_simp
          refine (HTX.out _ B4.out).mono ?_
          rintro e w5 ⟨rfl, hb5⟩
          have B5 := Hid.mk (bel_then B4.out hb5)
          have K5 := Hid.mk ((hb5.block wr.heap.size q4).trans K4.out)
          clear hb5
          refine hK.out _ _ K5.out (fun hH => ?_)
          clear hK K
          try simp only [List.getElem_toArray, List.getElem_cons_zero, List.getElem_cons_succ, Act.put, List.setIfInBounds_toArray, List.set_cons_zero, List.set_cons_succ]
          refine wpAnyH_take (i := 11) (v := .string (⟨#[106, 111, 98, 32]⟩ ++ so ++ sr ++ ⟨#[32, 61, 32]⟩ ++ sj)) rfl (by kernel_rfl) (by kernel_rfl) (by kernel_rfl) (fun _ _ _ h => h) (Or.inl ⟨by rfl, ?_⟩) (by assumption) ?_
          · intro V hV
            go_simp
          simp only [List.getElem_toArray, List.getElem_cons_zero, List.getElem_cons_succ, Act.put, List.setIfInBounds_toArray, List.set_cons_zero, List.set_cons_succ]
          refine wpAnyH_take (i := 12) (v := .string (⟨#[106, 111, 98, 32]⟩ ++ so ++ sr ++ ⟨#[32, 61, 32]⟩ ++ sj ++ ⟨#[59, 10]⟩)) rfl (by kernel_rfl) (by kernel_rfl) (by kernel_rfl) (fun _ _ _ h => h) (Or.inl ⟨by rfl, ?_⟩) (by assumption) ?_
          · intro V hV
            go_simp
          simp only [List.getElem_toArray, List.getElem_cons_zero, List.getElem_cons_succ, Act.put, List.setIfInBounds_toArray, List.set_cons_zero, List.set_cons_succ]
          refine wpAnyH_ready (rs := [13]) (by kernel_rfl) (by simp) ?_
          refine AllReadyH.cons rfl (fun K hK => ?_) AllReadyH.nil
          go_simp
          refine (HWR.out _ _ _ (HP.out.then B5.out) (pr_len2 HL.out hsz1 hsz2 hsz3)).mono ?_
          rintro e w6 ⟨rfl, hp6, ho6⟩
          have P6 := Hid.mk hp6
          have K6 := Hid.mk (kept_blk ho6 K5.out (by omega) (by decide))
          clear hp6 ho6
          refine hK.out _ _ K6.out (fun hH => ?_)
          clear hK K
          try simp only [List.getElem_toArray, List.getElem_cons_zero, List.getElem_cons_succ, Act.put, List.setIfInBounds_toArray, List.set_cons_zero, List.set_cons_succ]
          refine wpAnyH_done (by kernel_rfl) ?_ _
          go_wp2
          go_roundw
          case rel => exact ⟨k + 1, by omega, by go_num, by have := P6.out; rw [HT.out] at this; exact this⟩
          case measure => simp [intOf]; omega
        · have hke : k = f.jobs.length := by omega
          subst hke
          rw [List.take_of_length_le (Nat.le_refl _)] at hps
          obtain ⟨wb, rfl⟩ : ∃ x, x = wr := ⟨_, rfl⟩
          have HPb := Hid.mk hps
          have c2 := (HXW.out wb hps.2).cell 2 rfl
          clear hps HP
          go_wp2
          go_loopw [53] (fun i wr => ∃ k : Nat, k ≤ f.outs.length ∧ i = .int .i64 k ∧ PrS w1 wr (f.ins.flatMap inLn ++ f.jobs.flatMap jobLn ++ (f.outs.take k).flatMap outLn)) (fun i _ => f.outs.length - (intOf i).toNat)
          case atStart => exact ⟨0, Nat.zero_le _, rfl, by simpa using HPb.out⟩
          case round =>
            obtain ⟨k, hk, rfl, hps⟩ := hrel
            have HP := Hid.mk hps
            have hls := hps.lt
            by_cases hlt : k < f.outs.length
            · obtain ⟨hr, hv, hE⟩ := HV.out
              rcases hr.outs with ⟨-, e0⟩ | ⟨b, c', e0, hcap, hb, hcell⟩
              · rw [e0] at hlt; exact absurd hlt (by simp)
              simp only [Value.slice.injEq, true_and] at e0
              obtain ⟨rfl, rfl⟩ := e0
              obtain ⟨a, ha, e0, e1, e2⟩ := hcell k hlt
              have d0 := (hps.2.cell (p := ⟨b, k * 3, none⟩) hb).trans e0
              have d1 := (hps.2.cell (p := ⟨b, k * 3 + 1, none⟩) hb).trans e1
              have d2 := (hps.2.cell (p := ⟨b, k * 3 + 2, none⟩) hb).trans e2
              have hin := hv.outs a (List.mem_of_getElem? ha)
              have hnl : (ba a.name).size ≤ 10 := by rw [ba_size]; exact hin.1
              have hfl : (ba a.from_).size ≤ 10 := by rw [ba_size]; exact hin.2
              have HT : Hid (f.ins.flatMap inLn ++ f.jobs.flatMap jobLn ++ (f.outs.take k).flatMap outLn ++ (⟨#[111, 117, 116, 32]⟩ ++ ba a.name ++ ⟨#[32, 61, 32]⟩ ++ ba a.from_ ++ ⟨#[59, 10]⟩ : ByteArray).data.toList = f.ins.flatMap inLn ++ f.jobs.flatMap jobLn ++ (f.outs.take (k + 1)).flatMap outLn) := Hid.mk (by
                rw [← take_flat ha]
                simp [outLn, wOut])
              have hpl : (f.ins.flatMap inLn ++ f.jobs.flatMap jobLn ++ (f.outs.take k).flatMap outLn).length ≤ 1003000 * 16 + 3000000 * 16 + 1000 * 16 := by
                have h1 := flat_take_len (f := inLn) f.ins f.ins.length (fun x hx => inLn_size (hv.ins x hx)) hil
                rw [List.take_of_length_le (Nat.le_refl _)] at h1
                have h2 := flat_take_len (f := jobLn) f.jobs f.jobs.length (fun x hx => jobL_len (hv.jobs x hx)) hjl
                rw [List.take_of_length_le (Nat.le_refl _)] at h2
                have h3 := flat_take_len (f := outLn) f.outs k (fun x hx => outLn_len (hv.outs x hx)) hol
                rw [List.length_append, List.length_append]
                omega
              have HL := Hid.mk hpl
              generalize f.ins.flatMap inLn ++ f.jobs.flatMap jobLn ++ (f.outs.take k).flatMap outLn = PL at *
              generalize ba a.name = nm at *
              generalize ba a.from_ = fm at *
              generalize a.at_ = ax at *
              clear hcell e0 e1 e2 hpl hin ha hE hv hr hps
              go_wp2_with (go_at_call 12; refine (HWR.out _ _ _ (HP.out.then (below_box _ _)) (pr_len3 HL.out hnl hfl)).mono ?_; rintro e w3 ⟨rfl, hp3, ho3⟩; have P3 := Hid.mk hp3; clear hp3 ho3)
              go_roundw
              case rel => exact ⟨k + 1, by omega, by go_num, by have := P3.out; rw [HT.out] at this; exact this⟩
              case measure => simp [intOf]; omega
            · have hke : k = f.outs.length := by omega
              subst hke
              rw [List.take_of_length_le (Nat.le_refl _)] at hps
              have hps : PrS w1 wr (printF f) := hps
              have HPc := Hid.mk hps
              clear hps HP
              go_wp2_with (go_at_call 17; refine (HBS.out _ _ HPc.out).mono ?_; rintro e w3 ⟨rfl, hb3⟩)
              go_ret
              exact ⟨rfl, hb3⟩
end Go.Proofs.YtajkjhkjgibcfaaDoor

