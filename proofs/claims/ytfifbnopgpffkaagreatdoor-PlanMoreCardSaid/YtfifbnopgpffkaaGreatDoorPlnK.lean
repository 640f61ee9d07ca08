import Derived.Test.YtfifbnopgpffkaaGreatDoorPlnJ
set_option linter.unusedSimpArgs false
set_option linter.unusedVariables false
namespace Go.Proofs.YtfifbnopgpffkaaGreatDoor.Pl
open Go.RowKit
open Fw (By FJob Flw ba strV encL zeroJ)

/-- Names that are made yet, in memory. -/
structure MkS (f : Flw) (w1 wr : World) (mv : Value) (m : List By) : Prop where
  low : Below w1.heap.size w1 wr
  row : encL w1.heap.size m mv wr
  nd : m.Nodup
  pre : ∃ r, madeL f = m ++ r
theorem MkS.below {f : Flw} {w1 wr w' : World} {mv : Value} {m : List By} (h : MkS f w1 wr mv m) (hb : Below wr.heap.size wr w') : MkS f w1 w' mv m := ⟨bel_then h.low hb, encL_below h.row hb, h.nd, h.pre⟩
theorem MkS.snoc {f : Flw} {w1 wr w5 : World} {mv v' : Value} {m : List By} {x : By} (h : MkS f w1 wr mv m) (hx : x ∉ m) (hp : ∃ r, madeL f = m ++ x :: r) (ho : w5.ownsRow w1.heap.size 9 1 v' (m.length + 1) (strV m ++ [.string (ba x)])) (hg : (wr.alloc (.cells #[.string (ba x)] 9)).grownBy w5 mv.ownBlock) : MkS f w1 w5 v' (m ++ [x]) := by
  have hws := h.low.size
  refine ⟨(h.low.alloc hws _).grown hg (by simp; omega) (fun q hq => (h.row.lt q hq).1), ?_, nodup_snoc h.nd hx, ?_⟩
  · unfold encL
    rw [strV_app, List.length_append]
    exact ho
  · obtain ⟨r, hr⟩ := hp
    exact ⟨r, by rw [hr]; simp⟩
theorem MkS.has {f : Flw} {w1 wr : World} {mv : Value} {m : List By} (h : MkS f w1 wr mv m) (hf : Fw.FlwOK f) (x : By) (V : World) (hV : Below wr.heap.size wr V) : Calls Tryz.prog 29 #[mv, .string (ba x)] V fun e w' => e = .returned (.bool (m.contains x)) ∧ w' = V := by
  obtain ⟨r, hr⟩ := h.pre
  exact has_strs (Fw.StrsR.of (encL_below h.row hV)) (by have := pre_len hf hr; omega) x
theorem take_names {l : List Fw.FIn} {k : Nat} (h : k < l.length) : (l.take (k + 1)).map (·.name) = (l.take k).map (·.name) ++ [l[k].name] := by
  rw [List.take_succ_eq_append_getElem h, List.map_append]; rfl
theorem pre_ins {f : Flw} {k : Nat} (h : k < f.ins.length) : ∃ r, madeL f = (f.ins.take k).map (·.name) ++ f.ins[k].name :: r := by
  refine ⟨(f.ins.drop (k + 1)).map (·.name) ++ f.jobs.flatMap (·.outs), ?_⟩
  unfold madeL
  have e : f.ins = f.ins.take k ++ f.ins[k] :: f.ins.drop (k + 1) := by rw [← List.drop_eq_getElem_cons h, List.take_append_drop]
  conv => lhs; rw [e]
  simp only [List.map_append, List.map_cons, List.append_assoc, List.cons_append]
theorem pre_jobs {f : Flw} {q r : Nat} (h : q < f.jobs.length) (hr : r < f.jobs[q].outs.length) : ∃ s, madeL f = (f.ins.map (·.name) ++ (f.jobs.take q).flatMap (·.outs) ++ f.jobs[q].outs.take r) ++ f.jobs[q].outs[r] :: s := by
  refine ⟨f.jobs[q].outs.drop (r + 1) ++ (f.jobs.drop (q + 1)).flatMap (·.outs), ?_⟩
  unfold madeL
  have e : f.jobs = f.jobs.take q ++ f.jobs[q] :: f.jobs.drop (q + 1) := by rw [← List.drop_eq_getElem_cons h, List.take_append_drop]
  have e2 : f.jobs[q].outs = f.jobs[q].outs.take r ++ f.jobs[q].outs[r] :: f.jobs[q].outs.drop (r + 1) := by rw [← List.drop_eq_getElem_cons hr, List.take_append_drop]
  have e3 : f.jobs.flatMap (·.outs) = (f.jobs.take q).flatMap (·.outs) ++ (f.jobs[q].outs ++ (f.jobs.drop (q + 1)).flatMap (·.outs)) := by
    conv => lhs; rw [e]
    rw [List.flatMap_append, List.flatMap_cons]
  rw [e3]
  conv => lhs; rw [e2]
  simp only [List.append_assoc, List.cons_append]
theorem take_jobs {f : Flw} {q : Nat} (h : q < f.jobs.length) : (f.jobs.take (q + 1)).flatMap (·.outs) = (f.jobs.take q).flatMap (·.outs) ++ f.jobs[q].outs := by
  rw [List.take_succ_eq_append_getElem h, List.flatMap_append]; simp
theorem colsR_slice {w : World} {v : Value} {l : List (By × Int)} (h : Fw.ColsR w v l) : ∃ a c, v = .slice a l.length c := by
  rcases h with ⟨rfl, rfl⟩ | ⟨b, o, c, rfl, -⟩
  · exact ⟨_, _, rfl⟩
  · exact ⟨_, _, rfl⟩
theorem row_ne_blk {w : World} {B K n z : Nat} {e e' : TypeId} {v : Value} {xs : List Value} {cs : Array Value} (hne : e ≠ e') (h : w.ownsRow B e z v n xs) (hK : w.heap[K]? = some (.cells cs e' (0, 0))) : v.ownBlock ≠ some K := by
  intro he
  obtain ⟨-, ⟨rfl, -⟩ | ⟨g, cap, cur, rfl, -, hg, -⟩⟩ := h
  · cases he
  · simp only [Value.ownBlock, Option.some.injEq] at he
    subst he
    rw [hg] at hK
    simp at hK
    exact hne hK.2
set_option maxRecDepth 100000 in
set_option maxHeartbeats 3200000 in
theorem makings_any (f : Flw) (vi vj vo : Value) (w : World) (h : Fw.FlowRd w f vi vj vo) (hf : Fw.FlwOK f) :
    Calls Tryz.prog 42 #[.agg #[vi, vj, vo]] w fun e w' => MakR f w e w' := by
  obtain ⟨i0, hi, hz0, hz1, hz2⟩ := info_parts Fw.Tryz.infoStr
  obtain ⟨ia, ic, rfl⟩ := row_slice h.ins
  obtain ⟨ja, jc, rfl⟩ := row_slice h.jobs
  obtain ⟨I, hI⟩ : ∃ I, f.ins.length = I := ⟨_, rfl⟩
  obtain ⟨J, hJ⟩ : ∃ J, f.jobs.length = J := ⟨_, rfl⟩
  have hI16 : I ≤ 16 := by rw [← hI]; exact hf.il
  have hJ16 : J ≤ 16 := by rw [← hJ]; exact hf.jl
  rw [hI, hJ] at h ⊢
  obtain ⟨w1, hw1⟩ : ∃ x, w.alloc (.cells #[.slice ia I ic, .slice ja J jc, vo] 27) = x := ⟨_, rfl⟩
  have hB1 : Below w.heap.size w w1 := by rw [← hw1]; exact below_box _ _
  have hF1 : FBox w1 w.heap.size (.slice ia I ic) (.slice ja J jc) vo := by rw [← hw1]; exact FBox.new _ _ _ _ _
  have HB1 := Hid.mk hB1
  have HF1 := Hid.mk hF1
  have HH := Hid.mk (And.intro (h.below hB1) hf)
  have HI := Hid.mk hI
  have HJ := Hid.mk hJ
  have g1 := hF1.1
  have HAT : Hid (∀ (pl : Int) V, Calls Tryz.prog 24 #[.int .i64 9, .int .i64 pl] V fun e w' => ∃ p, e = .returned (.iface 82 (.pointer (some ⟨p, 0, none⟩))) ∧ AtV w' (.iface 82 (.pointer (some ⟨p, 0, none⟩))) 9 ∧ Below V.heap.size V w') := Hid.mk fun pl V => at_any 9 pl V
  clear h hf hI hJ hB1 hF1
  go_enter Tryz.func42, Tryz.ntmps42
  go_wp2
  go_loopw [4, 14] (fun mv i wr => ∃ k : Nat, k ≤ I ∧ i = .int .i64 k ∧ MkS f w1 wr mv ((f.ins.take k).map (·.name))) (fun _ i _ => I - (intOf i).toNat)
  case atStart => exact ⟨0, Nat.zero_le _, rfl, Below.refl _ _, World.ownsRow_nil _ _ _ _, by simp, ⟨madeL f, by simp⟩⟩
  case round =>
    obtain ⟨k, hk, rfl, hM⟩ := hrel
    obtain ⟨ma, mc, rfl⟩ := own_slice (show wr.ownsRow _ _ _ _ _ _ from hM.row)
    have HM := Hid.mk hM
    have hws := hM.low.size
    by_cases hlt : k < I
    · have hk2 : k < f.ins.length := by rw [HI.out]; exact hlt
      obtain ⟨b, c, e0, hcap, hb, v, d0, d1, d2, hcr⟩ := in_at (HH.out.1.below hM.low) hk2
      simp only [Value.slice.injEq] at e0
      obtain ⟨rfl, -, rfl⟩ := e0
      obtain ⟨ca, cc, rfl⟩ := colsR_slice hcr
      clear hcr
      have HC := Hid.mk (hM.has HH.out.2 f.ins[k].name)
      have HPRE := Hid.mk (pre_ins hk2)
      have HTN := Hid.mk (take_names hk2)
      obtain ⟨m, hm⟩ : ∃ m, (f.ins.take k).map (·.name) = m := ⟨_, rfl⟩
      rw [hm] at HC HPRE HTN HM hM ⊢
      obtain ⟨x, hx⟩ : ∃ x, f.ins[k].name = x := ⟨_, rfl⟩
      rw [hx] at HC HPRE HTN d1
      have hml : m.length ≤ 16016 := by obtain ⟨r, hr⟩ := hM.pre; exact pre_len HH.out.2 hr
      obtain ⟨bx, hbx⟩ : ∃ bx, ba x = bx := ⟨_, rfl⟩
      rw [hbx] at HC d1
      generalize f.ins[k].at_ = pl at *
      generalize f.ins[k].cols.length = cn at *
      have HBX := Hid.mk hbx
      clear hM hm hx hbx
      cases hcx : m.contains x with
      | true =>
        rw [hcx] at HC
        have HNO : Hid (¬ (madeL f).Nodup) := Hid.mk (by
          obtain ⟨r, hr⟩ := HPRE.out
          exact dup_pre hr (by simpa using hcx))
        clear hcx
        go_wp2_with (first | (go_at_call 29; refine (HC.out _ (below_box _ _)).mono ?_; rintro e2 w2 ⟨rfl, rfl⟩) | (go_at_call 24; refine (HAT.out _ _).mono ?_; rintro e3 w3 ⟨p, rfl, ha3, hb3⟩; have HA3 := Hid.mk ha3; have HB3 := Hid.mk hb3; clear ha3 hb3))
        refine bodyPost_ret (v := .tuple #[.slice none 0 0, .iface 82 (.pointer (some ⟨p, 0, none⟩))]) (by simp [results, Tryz.results42, go_sem]) rfl ?_
        exact ⟨HB1.out.trans ((bel_then HM.out.low (bel_then (below_box _ _) HB3.out)).mono HB1.out.size), Or.inl ⟨HNO.out, _, rfl, HA3.out⟩⟩
      | false =>
        rw [hcx] at HC
        have HNI : Hid (x ∉ m) := Hid.mk (by simpa using hcx)
        clear hcx
        go_wp2_with (first | (go_at_call 29; refine (HC.out _ (below_box _ _)).mono ?_; rintro e2 w2 ⟨rfl, rfl⟩) | (at_builtin; refine wpList_append_own _ rfl _ _ 37 rfl w1.heap.size 9 i0 (.string ⟨#[]⟩) 1 16 Tryz.underlying37 hi hz0 hz1 hz2 rfl (by decide) _ _ _ rfl ((encL_below HM.out.row (below_box _ _)).alloc _) ⟨wr.heap.size + 1, 0, none⟩ 1 1 [.string bx] rfl rfl (news1 _ _ _ _ (by simp)) (one1t _) ?c3 ?c4 ?c5 ?_))
        case c3 => unfold maxLen; omega
        case c4 => omega
        case c5 => simp; omega
        intro v' w5 hown' hgrow _
        obtain ⟨wc, hwc⟩ : ∃ wc, wr.alloc (.cells #[.int .i64 (pl : Nat), .string bx, .slice ca cn cc] 57) = wc := ⟨_, rfl⟩
        rw [hwc, ← HBX.out] at hgrow
        rw [← HBX.out] at hown'
        have hMc : MkS f w1 wc (.slice ma m.length mc) m := by rw [← hwc]; exact HM.out.below (below_box _ _)
        have HF := Hid.mk (hMc.snoc HNI.out HPRE.out hown' hgrow)
        clear hown' hgrow hMc hwc
        go_wp2
        go_roundw
        case rel => exact ⟨k + 1, by omega, by go_num, by rw [HTN.out]; exact HF.out⟩
        case measure => simp [intOf]; omega
    · obtain rfl : k = I := by omega
      have hN : (f.ins.take k).map (·.name) = f.ins.map (·.name) := by rw [List.take_of_length_le (by have := HI.out; omega)]
      rw [hN] at HM hM
      have hS := (HF1.out.below hM.low).2.1
      obtain ⟨wa, hwa⟩ : ∃ x, x = wr := ⟨_, rfl⟩
      rw [← hwa] at HM hS ⊢
      rw [show ((f.ins.take k).map (·.name)).length = (f.ins.map (·.name)).length by rw [hN]] at *
      clear hM hN hwa hws
      go_wp2
      go_loopw [4, 34] (fun mv i wr => ∃ q : Nat, q ≤ J ∧ i = .int .i64 q ∧ MkS f w1 wr mv (f.ins.map (·.name) ++ (f.jobs.take q).flatMap (·.outs))) (fun _ i _ => J - (intOf i).toNat)
      case atStart => exact ⟨0, Nat.zero_le _, rfl, by simpa using HM.out⟩
      case round =>
        obtain ⟨q, hq, rfl, hM2⟩ := hrel
        clear HM hS
        obtain ⟨wb, hwb⟩ : ∃ x, x = wr := ⟨_, rfl⟩
        rw [← hwb] at hM2 ⊢
        clear hwb
        obtain ⟨ma2, mc2, rfl⟩ := own_slice (show wb.ownsRow _ _ _ _ _ _ from hM2.row)
        have HM := Hid.mk hM2
        by_cases hlt2 : q < J
        · have hq2 : q < f.jobs.length := by rw [HJ.out]; exact hlt2
          obtain ⟨b, c, e0, hcap, hb, ao, ai, ac, hra0, ho, hi3, hc3⟩ := job_at HH.out.1 hq2
          have hra : wb.rangeAt b (q * 15) (Fw.jobV f.jobs[q] ao ai ac) := fun j u hj => (hM2.low.cell (p := ⟨b, q * 15 + j, none⟩) hb).trans (hra0 j u hj)
          clear hra0
          simp only [Value.slice.injEq] at e0
          obtain ⟨rfl, -, rfl⟩ := e0
          have hone := jobV_one ho hi3 hc3
          have HPJ0 : ∀ outs M, f.jobs[q].outs = outs → f.ins.map (·.name) ++ (f.jobs.take q).flatMap (·.outs) = M → ∀ r (hr : r < outs.length), ∃ s, madeL f = (M ++ outs.take r) ++ outs[r] :: s := by
            rintro _ _ rfl rfl r hr
            exact pre_jobs hq2 hr
          have HTJ := Hid.mk (take_jobs hq2)
          have hol := (HH.out.2.jobs _ (List.getElem_mem hq2)).ol
          have HO := Hid.mk ho
          obtain ⟨oa, oc, rfl⟩ := strs_slice ho
          obtain ⟨JL, hJL⟩ : ∃ JL, Fw.jobV f.jobs[q] (.slice oa f.jobs[q].outs.length oc) ai ac = JL := ⟨_, rfl⟩
          have hJ2 : JL[2]? = some (.slice oa f.jobs[q].outs.length oc) := by rw [← hJL]; rfl
          have hJ0 : JL[0]? = some (.int .i64 (f.jobs[q].at_ : Nat)) := by rw [← hJL]; rfl
          have hJl : JL.length = 15 := by rw [← hJL]; rfl
          rw [hJL] at hra hone
          obtain ⟨outs, houts⟩ : ∃ outs, f.jobs[q].outs = outs := ⟨_, rfl⟩
          generalize f.jobs[q].at_ = pl at *
          obtain ⟨w3, hw3, hb3, hx3, hs3, hinf, hth⟩ := job_copy wb JL hJl hone
          have hK3 : w3.heap[wb.heap.size]? = some (.cells JL.toArray 43 (0, 0)) := by rw [hw3]; exact Fw.job_stored wb JL hJl
          have HRA := Hid.mk hra
          have HON := Hid.mk hone
          have HIN := Hid.mk hinf
          have HTH := Hid.mk hth
          have HW3 := Hid.mk hw3
          have HK3 := Hid.mk hK3
          have HB3 := Hid.mk hb3
          have hc2 := hx3.cell 2 hJ2
          simp only [houts] at hc2 hol HTJ HO hJ2
          have HJ0 := Hid.mk hJ0
          obtain ⟨M, hM⟩ : ∃ M, f.ins.map (·.name) ++ (f.jobs.take q).flatMap (·.outs) = M := ⟨_, rfl⟩
          have HTM : Hid (f.ins.map (·.name) ++ (f.jobs.take (q + 1)).flatMap (·.outs) = M ++ outs) := Hid.mk (by rw [HTJ.out, ← List.append_assoc, hM])
          have HPJ := Hid.mk (HPJ0 outs M houts hM)
          rw [hM] at HM ⊢
          have HM3 := Hid.mk (HM.out.below hb3)
          clear hM2 hra hone hinf hth hw3 hx3 hK3 hb3 ho hi3 hc3 hJL hJ2 hJ0 hM HTJ HPJ0 houts
          go_wp2_with (first | (refine wpList_load_mid rfl 43 (.tmp 36) rfl b (q * 15) rfl JL _ HRA.out Tryz.underlying43 rfl HIN.out ?_) | (refine wpList_store_mid rfl 43 (.tmp 8) (.tmp 37) rfl wb.heap.size 0 JL.toArray rfl rfl HTH.out HIN.out HON.out ?_; rw [show JL.toArray.toList = JL from rfl, ← HW3.out]))
          obtain ⟨n, hn⟩ : ∃ n, outs.length = n := ⟨_, rfl⟩
          have HN := Hid.mk hn
          rw [hn] at hol HO hc2 ⊢
          clear hn
          go_loopw [4, 41] (fun mv i wr => ∃ r : Nat, r ≤ n ∧ i = .int .i64 r ∧ MkS f w1 wr mv (M ++ outs.take r) ∧ wr.heap[wb.heap.size]? = some (.cells JL.toArray 43 (0, 0))) (fun _ i _ => n - (intOf i).toNat)
          case atStart => exact ⟨0, Nat.zero_le _, rfl, by simpa using HM3.out, HK3.out⟩
          case round =>
            obtain ⟨r, hr, rfl, hM4, hK4⟩ := hrel
            obtain ⟨ma4, mc4, rfl⟩ := own_slice (show wr.ownsRow _ _ _ _ _ _ from hM4.row)
            have HM4 := Hid.mk hM4
            have HK4 := Hid.mk hK4
            have hws4 := hM4.low.size
            by_cases hlt3 : r < n
            · have hr2 : r < outs.length := by have := HN.out; omega
              rcases HO.out with ⟨-, e0⟩ | ⟨ob, oo, oc', e0, hcap2, hob, hcell⟩
              · rw [e0] at hr2; exact absurd hr2 (by simp)
              simp only [Value.slice.injEq] at e0
              obtain ⟨rfl, -, rfl⟩ := e0
              have d1 := (hM4.low.cell (p := ⟨ob, oo + r, none⟩) hob).trans (hcell r hr2)
              obtain ⟨x, hx⟩ : ∃ x, outs[r] = x := ⟨_, rfl⟩
              have HPRE : Hid (∃ s, madeL f = (M ++ outs.take r) ++ x :: s) := Hid.mk (by rw [← hx]; exact HPJ.out r hr2)
              have HTK : Hid (M ++ outs.take (r + 1) = (M ++ outs.take r) ++ [x]) := Hid.mk (by rw [List.take_succ_eq_append_getElem hr2, hx, List.append_assoc])
              rw [hx] at d1
              obtain ⟨m, hm⟩ : ∃ m, M ++ outs.take r = m := ⟨_, rfl⟩
              rw [hm] at HPRE HTK HM4 hM4 ⊢
              have HC := Hid.mk (hM4.has HH.out.2 x wr (Below.refl _ _))
              have hml : m.length ≤ 16016 := by obtain ⟨s, hs⟩ := hM4.pre; exact pre_len HH.out.2 hs
              obtain ⟨bx, hbx⟩ : ∃ bx, ba x = bx := ⟨_, rfl⟩
              rw [hbx] at HC d1
              have HBX := Hid.mk hbx
              have dA := Fw.blk_cell (i := 0) hK4 (by simpa using HJ0.out)
              clear hM4 hm hx hbx hcell hK4
              cases hcx : m.contains x with
              | true =>
                rw [hcx] at HC
                have HNO : Hid (¬ (madeL f).Nodup) := Hid.mk (by
                  obtain ⟨s, hs⟩ := HPRE.out
                  exact dup_pre hs (by simpa using hcx))
                clear hcx
                go_wp2_with (first | (go_at_call 29; refine HC.out.mono ?_; rintro e2 w2 ⟨rfl, h2⟩; obtain rfl : wr = w2 := h2.symm; clear h2) | (go_at_call 24; refine (HAT.out _ _).mono ?_; rintro e3 w3 ⟨p, rfl, ha3, hb3⟩; have HA3 := Hid.mk ha3; have HB3 := Hid.mk hb3; clear ha3 hb3))
                refine bodyPost_ret (v := .tuple #[.slice none 0 0, .iface 82 (.pointer (some ⟨p, 0, none⟩))]) (by simp [results, Tryz.results42, go_sem]) rfl ?_
                exact ⟨HB1.out.trans ((bel_then HM4.out.low HB3.out).mono HB1.out.size), Or.inl ⟨HNO.out, _, rfl, HA3.out⟩⟩
              | false =>
                rw [hcx] at HC
                have HNI : Hid (x ∉ m) := Hid.mk (by simpa using hcx)
                clear hcx
                go_wp2_with (first | (go_at_call 29; refine HC.out.mono ?_; rintro e2 w2 ⟨rfl, h2⟩; obtain rfl : wr = w2 := h2.symm; clear h2) | (at_builtin; refine wpList_append_own _ rfl _ _ 37 rfl w1.heap.size 9 i0 (.string ⟨#[]⟩) 1 16 Tryz.underlying37 hi hz0 hz1 hz2 rfl (by decide) _ _ _ rfl (HM4.out.row.alloc _) ⟨wr.heap.size, 0, none⟩ 1 1 [.string bx] rfl rfl (news1 _ _ _ _ rfl) (one1t _) ?c3 ?c4 ?c5 ?_))
                case c3 => unfold maxLen; omega
                case c4 => omega
                case c5 => simp; omega
                intro v' w5 hown' hgrow _
                rw [← HBX.out] at hgrow hown'
                have HF := Hid.mk (HM4.out.snoc HNI.out HPRE.out hown' hgrow)
                have hlK : wb.heap.size < wr.heap.size := (Array.getElem?_eq_some_iff.1 HK4.out).1
                have HKF : Hid (w5.heap[wb.heap.size]? = some (.cells JL.toArray 43 (0, 0))) := Hid.mk (by
                  rw [hgrow.block wb.heap.size (by simp; omega) (by
                    intro e
                    exact row_ne_blk (by decide) HM4.out.row HK4.out e.symm)]
                  rw [Below.heap_alloc _ _ _ hlK]
                  exact HK4.out)
                clear hown' hgrow dA
                go_wp2
                go_roundw
                case rel => exact ⟨r + 1, by omega, by go_num, by rw [HTK.out]; exact HF.out, HKF.out⟩
                case measure => simp [intOf]; omega
            · obtain rfl : r = n := by omega
              have HF : Hid (MkS f w1 wr (.slice ma4 (M ++ outs.take r).length mc4) (f.ins.map (·.name) ++ (f.jobs.take (q + 1)).flatMap (·.outs))) := Hid.mk (by
                rw [HTM.out]
                have := hM4
                rw [show outs.take r = outs from List.take_of_length_le (by have := HN.out; omega)] at this ⊢
                exact this)
              clear hM4 hK4
              go_wp2
              go_roundw
              case rel => exact ⟨q + 1, by omega, by go_num, HF.out⟩
              case measure => simp [intOf]; omega
        · obtain rfl : q = J := by omega
          have HMD : Hid (f.ins.map (·.name) ++ (f.jobs.take q).flatMap (·.outs) = madeL f) := Hid.mk (by
            rw [List.take_of_length_le (by have := HJ.out; omega)]; rfl)
          rw [HMD.out] at HM hM2 ⊢
          clear hM2
          go_wp2
          refine bodyPost_ret (v := .tuple #[.slice ma2 (madeL f).length mc2, .nilIface]) (by simp [results, Tryz.results42, go_sem]) rfl ?_
          exact ⟨HB1.out.trans (HM.out.low.mono HB1.out.size), Or.inr ⟨HM.out.nd, _, rfl, own_mono HB1.out.size HM.out.row⟩⟩
end Go.Proofs.YtfifbnopgpffkaaGreatDoor.Pl
