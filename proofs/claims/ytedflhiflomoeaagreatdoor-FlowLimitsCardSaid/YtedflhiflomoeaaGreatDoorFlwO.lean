import Derived.Test.YtedflhiflomoeaaGreatDoorFlwN
import Derived.Test.YtedflhiflomoeaaGreatDoorFlwQ
set_option linter.unusedSimpArgs false
set_option linter.unusedVariables false
namespace Go.Proofs.YtedflhiflomoeaaGreatDoor
open Go.RowKit

def FlowR (r : Except (Int × Nat) Flw) (e : Ending) (B : Nat) (w' : World) : Prop :=
  (∃ f vi vj vo, r = .ok f ∧ e = .returned (.agg #[vi, vj, vo]) ∧ FlowO w' (B + 2) f.ins vi f.jobs vj f.outs vo) ∨ (∃ er, r = .error er ∧ Thr e w' B er)
theorem fold_set : ∀ (l rest pre : List Value), rest.length = l.length → List.foldl (fun (cs : Array Value) (x : Value × Nat) => cs.setIfInBounds x.snd x.fst) (pre ++ rest).toArray (l.zipIdx pre.length) = (pre ++ l).toArray
  | [], rest, pre, h => by
    have : rest = [] := List.eq_nil_of_length_eq_zero (by simpa using h)
    subst this
    rfl
  | u :: l, [], pre, h => by simp at h
  | u :: l, r :: rest, pre, h => by
    rw [List.zipIdx_cons, List.foldl_cons]
    have e : (pre ++ r :: rest).toArray.setIfInBounds pre.length u = ((pre ++ [u]) ++ rest).toArray := by
      rw [List.setIfInBounds_toArray, List.set_append_right _ _ (Nat.le_refl _)]
      simp
    dsimp only
    rw [e]
    have ih := fold_set l rest (pre ++ [u]) (by simpa using h)
    rw [List.length_append] at ih
    simpa using ih
theorem jobV_len (j : FJob) (a b c : Value) : (jobV j a b c).length = 15 := rfl
theorem jobV_fold (j : FJob) (a b c : Value) : List.foldl (fun (cs : Array Value) (x : Value × Nat) => cs.setIfInBounds x.snd x.fst) #[.int .i64 0, .int .i64 0, .slice none 0 0, .slice none 0 0, .slice none 0 0, .string ⟨#[]⟩, .string ⟨#[]⟩, .int .i64 0, .int .i64 0, .string ⟨#[]⟩, .string ⟨#[]⟩, .int .i64 0, .int .i64 0, .string ⟨#[]⟩, .int .i64 0] (jobV j a b c).zipIdx = (jobV j a b c).toArray :=
  fold_set (jobV j a b c) [.int .i64 0, .int .i64 0, .slice none 0 0, .slice none 0 0, .slice none 0 0, .string ⟨#[]⟩, .string ⟨#[]⟩, .int .i64 0, .int .i64 0, .string ⟨#[]⟩, .string ⟨#[]⟩, .int .i64 0, .int .i64 0, .string ⟨#[]⟩, .int .i64 0] [] rfl
theorem parts_yes {α : Type} {x : By} {p : List Tk → PE α} {g : Nat} {acc : List α} {ts : List Tk} (h : textT ts = x) (hn : acc.length ≠ 16) : partsP x p (g + 1) acc ts = (p ts).bind fun y => partsP x p g (acc ++ [y.1]) y.2 := by rw [partsP, if_pos h, if_neg hn]
theorem parts_full {α : Type} {x : By} {p : List Tk → PE α} {g : Nat} {acc : List α} {ts : List Tk} (h : textT ts = x) (hn : acc.length = 16) : partsP x p (g + 1) acc ts = .error (4, hereT ts) := by rw [partsP, if_pos h, if_pos hn]; rfl
theorem parts_no {α : Type} {x : By} {p : List Tk → PE α} {g : Nat} {acc : List α} {ts : List Tk} (h : ¬ textT ts = x) : partsP x p (g + 1) acc ts = .ok (acc, ts) := by rw [partsP, if_neg h]
theorem good_fuel {ts : List Tk} {f : Nat} (h : GoodT ts) (hf : ts.length ≤ f) : ∃ f', f = f' + 1 := by
  obtain ⟨t, r, rfl⟩ := h.ne
  exact ⟨f - 1, by simp at hf; omega⟩
theorem tails_lt {ts : List Tk} (h : GoodT ts) : ts.tail.length < ts.length := by
  obtain ⟨t, r, rfl⟩ := h.ne
  simp
set_option maxRecDepth 100000 in
set_option maxHeartbeats 3200000 in
theorem rflow_any (R : Nat) (ts : List Tk) (w : World) (h : RD w R ts) : Calls Tryz.prog 19 #[.pointer (some ⟨R, 0, none⟩)] w fun e w' => FlowR (flowP ts) e w.heap.size w' ∧ But R w w' := by
  obtain ⟨i1, hi1, hz10, hz11, hz12⟩ := info_parts Tryz.infoIn
  obtain ⟨i2, hi2, hz20, hz21, hz22⟩ := info_parts Tryz.infoJob
  obtain ⟨i3, hi3, hz30, hz31, hz32⟩ := info_parts Tryz.infoOut
  have hR := h.lt
  have H0 := Hid.mk h
  have B0 := Hid.mk (But.refl R w)
  have E0 := Hid.mk (flowP.eq_1 ts)
  clear h
  go_enter Tryz.func19, Tryz.ntmps19
  have H1 := Hid.mk (H0.out.below (below_box _ (.cells #[.slice none 0 0, .slice none 0 0, .slice none 0 0] 31)))
  have B2 := Hid.mk (B0.out.box (.cells #[.slice none 0 0, .slice none 0 0, .slice none 0 0] 31))
  have X3 := Hid.mk (Box.new w [.slice none 0 0, .slice none 0 0, .slice none 0 0] 31 _ rfl)
  clear H0 B0
  have H4 := Hid.mk (H1.out.below (below_box _ (.cells #[.slice none 0 0, .slice none 0 0, .slice none 0 0] 31)))
  have B5 := Hid.mk (B2.out.box (.cells #[.slice none 0 0, .slice none 0 0, .slice none 0 0] 31))
  have X6 := Hid.mk (X3.out.below (below_box _ (.cells #[.slice none 0 0, .slice none 0 0, .slice none 0 0] 31)))
  have X7 := Hid.mk (Box.new (w.alloc (.cells #[.slice none 0 0, .slice none 0 0, .slice none 0 0] 31)) [.slice none 0 0, .slice none 0 0, .slice none 0 0] 31 (w.heap.size + 1) (by simp))
  clear H1 B2 X3
  go_wp2_with fail
  go_loopg [] 17 (fun g wr => ∃ (acc1 : List FIn) (t1 : List Tk) (n1 : Nat) (vi : Value) (vs1 : List Value), n1 ≤ 16 ∧ 16 - n1 ≤ g ∧ Aside (n1 = acc1.length ∧ RD wr R t1 ∧ But R w wr ∧ Box wr w.heap.size [.slice none 0 0, .slice none 0 0, .slice none 0 0] ∧ Box wr (w.heap.size + 1) [vi, .slice none 0 0, .slice none 0 0] ∧ FlowI wr (w.heap.size + 2) acc1 vs1 vi ∧ ∃ f, t1.length ≤ f ∧ flowP ts = (partsP wIn inputP f acc1 t1).bind (fun i => (partsP wJob jobP i.2.length [] i.2).bind fun j => (partsP wOut publishP j.2.length [] j.2).bind fun o => lastP ⟨i.1, j.1, o.1⟩ o.2)))
  case atStart => exact ⟨[], ts, 0, .slice none 0 0, [], by omega, by omega, rfl, H4.out, B5.out, X6.out, X7.out, FlowI.nil _ _, _, Nat.le_refl _, E0.out⟩
  case round =>
    obtain ⟨acc1, t1, n1, vi, vs1, hn, hg, HH⟩ := hrel
    clear H4 B5 E0 X6 X7
    obtain ⟨va, vcp, hvv⟩ := own_slice HH.out.2.2.2.2.2.1.row
    have hnl := HH.out.1
    rw [← hnl] at hvv
    clear hnl
    subst hvv
    have hqr := HH.out.2.2.2.1.lt
    have hqf := HH.out.2.2.2.2.1.lt
    obtain ⟨f0, hf, hnm⟩ := HH.out.2.2.2.2.2.2
    obtain ⟨f', hff⟩ := good_fuel HH.out.2.1.good hf
    subst hff
    have HF := Hid.mk hf
    have hcf := HH.out.2.2.2.2.1.cell 0 rfl
    have HBG := Hid.mk (rbegins_any wIn n1 R t1 wr HH.out.2.1)
    clear hf
    by_cases hm : textT t1 = wIn
    · by_cases hf16 : n1 = 16
      · as_aux_lemma =>
          have HP := Hid.mk (show flowP ts = .error (4, hereT t1) by rw [hnm, parts_full hm (by rw [← HH.out.1]; exact hf16)]; rfl)
          have hbg : beginsP wIn n1 t1 = .error (4, hereT t1) := by rw [beginsP, if_pos hm, if_pos hf16]; rfl
          rw [hbg] at HBG
          clear hbg hm hf16 hnm
          go_wp2_with (go_at_call 37; fail)
          refine HBG.out.mono ?_
          rintro e wt ⟨hrs, hbt⟩
          obtain ⟨b', rfl, t0, t1', tB, tl⟩ := hrs.err
          go_wp2
          exact ⟨rfl, Or.inr ⟨_, HP.out, b', rfl, t0, t1', Nat.le_trans HH.out.2.2.1.size tB, tl⟩, HH.out.2.2.1.then (But.of hbt)⟩
      · as_aux_lemma =>
          have EL := Hid.mk (show flowP ts = (inputP t1).bind fun y => (partsP wIn inputP f' (acc1 ++ [y.1]) y.2).bind (fun i => (partsP wJob jobP i.2.length [] i.2).bind fun j => (partsP wOut publishP j.2.length [] j.2).bind fun o => lastP ⟨i.1, j.1, o.1⟩ o.2) by rw [hnm, parts_yes hm (by rw [← HH.out.1]; exact hf16), bind_assoc])
          have hbg : beginsP wIn n1 t1 = .ok (true, t1) := by rw [beginsP, if_pos hm, if_neg hf16]
          rw [hbg] at HBG
          have hn16 : n1 < 16 := by omega
          clear hbg hm hf16 hnm
          go_wp2_with (go_at_call 37; fail)
          refine HBG.out.mono ?_
          rintro e wl ⟨hrs, hbt⟩
          obtain ⟨vb, rfl, hvb, hrd⟩ := hrs.ok
          unfold encB at hvb
          subst hvb
          have HL := Hid.mk hrd
          have BL := Hid.mk (HH.out.2.2.1.then (But.of hbt))
          have XL := Hid.mk (HH.out.2.2.2.1.below hbt)
          have YL := Hid.mk (HH.out.2.2.2.2.1.below hbt)
          have FLW := Hid.mk (HH.out.2.2.2.2.2.1.imp (fun e z n v xs h => h.kept (grown_below hbt none) (by cases v.ownBlock <;> simp)))
          have OL : Hid (wl.ownsRow (w.heap.size + 2) 54 3 (.slice va n1 vcp) n1 (insV acc1 vs1)) := Hid.mk (by have h := FLW.out.row; rw [← HH.out.1] at h; exact h)
          have qa1 := XL.out.lt
          have qa2 := YL.out.lt
          clear hrd hbt hrs
          have cf1101 := YL.out.cell 0 rfl
          have cf1102 := YL.out.fz 0
          have cl1103 := YL.out.lt
          go_wp2_with fail
          cases hcp : inputP t1 with
          | error er =>
            have HP := Hid.mk (bind_err EL.out hcp)
            have HC := Hid.mk (rinput_any R t1 _ HL.out.drew)
            rw [hcp] at HC
            refine wp_region_held_drew (S := fun V => V.cell? ⟨w.heap.size + 1, 0, none⟩ = some (.slice va n1 vcp)) (by kernel_rfl) (YL.out.cell 0 rfl) (fun hHeld => ?_)
            refine wpAnyH_take (i := 0) (v := .pointer (some ⟨w.heap.size + 1, 0, none⟩)) rfl (by kernel_rfl) (by kernel_rfl) (by kernel_rfl) (fun _ _ _ h => h) (Or.inl ⟨by rfl, ?_⟩) (by assumption) ?_
            · intro V hV
              go_simp
            simp only [List.getElem_toArray, List.getElem_cons_zero, List.getElem_cons_succ, Act.put, List.setIfInBounds_toArray, List.set_cons_zero, List.set_cons_succ]
            refine wpAnyH_take (i := 1) (v := .slice va n1 vcp) rfl (by kernel_rfl) (by kernel_rfl) (by kernel_rfl) (fun _ _ _ h => h) (Or.inl ⟨by rfl, ?_⟩) (by assumption) ?_
            · intro V hV
              go_simp
            simp only [List.getElem_toArray, List.getElem_cons_zero, List.getElem_cons_succ, Act.put, List.setIfInBounds_toArray, List.set_cons_zero, List.set_cons_succ]
            refine wpAnyH_take (i := 2) (v := .pointer (some ⟨R, 0, none⟩)) rfl (by kernel_rfl) (by kernel_rfl) (by kernel_rfl) (fun _ _ _ h => h) (Or.inl ⟨by rfl, ?_⟩) (by assumption) ?_
            · intro V hV
              go_simp
            simp only [List.getElem_toArray, List.getElem_cons_zero, List.getElem_cons_succ, Act.put, List.setIfInBounds_toArray, List.set_cons_zero, List.set_cons_succ]
            refine wpAnyH_ready (rs := [3]) (by kernel_rfl) (by simp) ?_
            refine AllReadyH.cons rfl (fun K hK => ?_) AllReadyH.nil
            go_simp
            refine HC.out.mono ?_
            rintro e wt ⟨hrs, hbt⟩
            obtain ⟨b', rfl, t0, t1, tB, tl⟩ := hrs.err
            go_wp2
            exact ⟨rfl, Or.inr ⟨_, HP.out, b', rfl, t0, t1, Nat.le_trans BL.out.size tB, tl⟩, BL.out.drew.then hbt⟩
          | ok z =>
            obtain ⟨a, tn⟩ := z
            have HC := Hid.mk (rinput_any R t1 _ HL.out.drew)
            rw [hcp] at HC
            have HCP := Hid.mk hcp
            clear hcp
            have hlt2 := le_input t1 a tn HCP.out
            have htl := tails_lt HH.out.2.1.good
            rw [List.length_tail] at htl
            have EN := Hid.mk (bind_ok EL.out HCP.out)
            go_region_law (first | (go_simp; go_at_call 38; refine HC.out.mono ?_; rintro e wa4 ⟨hrs, hb4⟩; obtain ⟨ve, rfl, hve, hrd4⟩ := hrs.ok; obtain ⟨vc, hv1, hv2⟩ := hve; obtain ⟨ca, cc, hv3⟩ := own_slice hv2; subst hv3; subst hv1; have X4 := (YL.out.block (w' := wl.drew) rfl).but hb4 (by omega); have c4 := X4.cell 0 rfl; have l4 := X4.lt; have RD4 := Hid.mk hrd4; have BU4 := Hid.mk (BL.out.drew.then hb4); have sz4 := BU4.out.size; have OW4 := Hid.mk ((own_but (OL.out.drew) hb4 (by omega)).alloc (.cells #[.int .i64 (a.at_ : Nat), .string (ba a.name), .slice ca a.cols.length cc] 54)); have XB4 := Hid.mk X4; have X4r := Hid.mk ((XL.out.block (w' := wl.drew) rfl).but hb4 (by omega)); have FL4 := Hid.mk ((FLW.out.imp (fun e z n v xs h => own_but (h.drew) hb4 (by omega))).imp (fun e z n v xs h => h.alloc (.cells #[.int .i64 (a.at_ : Nat), .string (ba a.name), .slice ca a.cols.length cc] 54))); have EC4 := Hid.mk (show encCs (w.heap.size + 2) a.cols (.slice ca a.cols.length cc) (wa4.alloc (.cells #[.int .i64 (a.at_ : Nat), .string (ba a.name), .slice ca a.cols.length cc] 54)) from (own_mono (by simp only [World.drew] at *; omega) hv2).alloc _); clear hrs hb4 hrd4 X4) | (refine step_append_lies _ (by rfl) _ _ _ (by rfl) ((w.heap.size + 2)) 54 i1 _ 3 48 Tryz.underlying27 hi1 hz10 hz11 hz12 rfl (by omega) (.slice va n1 vcp) (n1) _ (by rfl) OW4.out ⟨wa4.heap.size, 0, none⟩ 1 1 [.int .i64 (a.at_ : Nat), .string (ba a.name), .slice ca a.cols.length cc] (by rfl) (by rfl) (news_blk wa4 [.int .i64 (a.at_ : Nat), .string (ba a.name), .slice ca a.cols.length cc] 54 _ rfl) (by simp [Value.oneCell']) (by omega) (by unfold maxLen; omega) (by omega) (by simp; omega) (wa4.heap.size + 1) (by simp) ?_; intro gg cap wb5 hown5 hgrow5 hat5 hlt5; have X5 := Hid.mk ((XB4.out.below (below_box wa4 (.cells #[.int .i64 (a.at_ : Nat), .string (ba a.name), .slice ca a.cols.length cc] 54))).grown hgrow5 (by intro e; have := OW4.out.lt _ e; omega)); have c5 := X5.out.cell 0 rfl; have f5 := X5.out.fz 0; have l5 := X5.out.lt; have HG5 := Hid.mk hgrow5; have HO5 := Hid.mk hown5; have HO5c : wb5.ownsRow (w.heap.size + 2) 54 3 _ (acc1.length + 1) _ := (by rw [← HH.out.1]; exact hown5); have FL5 := Hid.mk (FL4.out.step EC4.out hgrow5 HO5c); clear HO5c;  clear hat5; clear hgrow5 hown5))
            all_goals
              (go_wp2_with fail
               go_roundg (16 - (n1 + 1))
               case measure => omega
               case rel => exact ⟨acc1 ++ [a], tn, n1 + 1, _, vs1 ++ [.slice ca a.cols.length cc], by omega, Nat.le_refl _, by simp [HH.out.1], (((RD4.out.below (below_box _ _)).grown HG5.out (fun q hq => by have := OW4.out.lt q hq; omega)).set (by omega)), (((BU4.out.box _).grown HG5.out (fun q hq => by have := OW4.out.lt q hq; omega)).put (by omega) _), (((X4r.out.below (below_box _ _)).grown HG5.out (by intro e; have := OW4.out.lt _ e; omega)).other _ _ (by omega)), (X5.out.set _ _), FL5.out.imp (fun e z n v xs h => ownsRow_setCell_below h (a := ⟨w.heap.size + 1, 0, none⟩) (by show w.heap.size + 1 < _; omega) _), f', by have := HF.out; omega, EN.out⟩)
    · have hbg : beginsP wIn n1 t1 = .ok (false, t1) := by rw [beginsP, if_neg hm]
      rw [hbg] at HBG
      have he := hnm
      rw [parts_no hm] at he
      have he2 := bind_ok he rfl
      dsimp only at he2
      have EX1 := Hid.mk he2
      clear hbg hm hnm he he2
      go_wp2_with (go_at_call 37; fail)
      refine HBG.out.mono ?_
      rintro e wx1 ⟨hrs, hbt⟩
      obtain ⟨vb, rfl, hvb, hrd⟩ := hrs.ok
      unfold encB at hvb
      subst hvb
      have HX1 := Hid.mk hrd
      have BX1 := Hid.mk (HH.out.2.2.1.then (But.of hbt))
      have XX1 := Hid.mk (HH.out.2.2.2.1.below hbt)
      have YX1 := Hid.mk (HH.out.2.2.2.2.1.below hbt)
      have FX1 := Hid.mk (HH.out.2.2.2.2.2.1.imp (fun e z n v xs h => h.kept (grown_below hbt none) (by cases v.ownBlock <;> simp)))
      have HN1 := Hid.mk HH.out.1
      have qx1 := XX1.out.lt
      have qy1 := YX1.out.lt
      clear hrd hbt hrs HH HBG HF hcf hqr hqf
      obtain ⟨vi, hvv⟩ : ∃ x, x = Value.slice va n1 vcp := ⟨_, rfl⟩
      rw [← hvv] at FX1 YX1
      have HV1 := Hid.mk hvv
      clear hvv
      go_wp2_with fail
      go_loopg [] 17 (fun g wr => ∃ (acc2 : List FJob) (t2 : List Tk) (n2 : Nat) (vj : Value) (vs2 : List (Value × Value × Value)), n2 ≤ 16 ∧ 16 - n2 ≤ g ∧ Aside (n2 = acc2.length ∧ RD wr R t2 ∧ But R w wr ∧ Box wr w.heap.size [.slice none 0 0, .slice none 0 0, .slice none 0 0] ∧ Box wr (w.heap.size + 1) [vi, vj, .slice none 0 0] ∧ FlowJ wr (w.heap.size + 2) acc1 vi acc2 vs2 vj ∧ ∃ f, t2.length ≤ f ∧ flowP ts = (partsP wJob jobP f acc2 t2).bind (fun j => (partsP wOut publishP j.2.length [] j.2).bind fun o => lastP ⟨acc1, j.1, o.1⟩ o.2)))
      case atStart => exact ⟨[], t1, 0, .slice none 0 0, [], by omega, by omega, rfl, HX1.out, BX1.out, XX1.out, YX1.out, FlowJ.nil FX1.out.at, _, Nat.le_refl _, EX1.out⟩
      case round =>
        obtain ⟨acc2, t2, n2, vj, vs2, hn, hg, HH⟩ := hrel
        clear HX1 BX1 EX1 XX1 YX1 FX1
        obtain ⟨va, vcp, hvv⟩ := own_slice HH.out.2.2.2.2.2.1.row
        have hnl := HH.out.1
        rw [← hnl] at hvv
        clear hnl
        subst hvv
        have hqr := HH.out.2.2.2.1.lt
        have hqf := HH.out.2.2.2.2.1.lt
        obtain ⟨f0, hf, hnm⟩ := HH.out.2.2.2.2.2.2
        obtain ⟨f', hff⟩ := good_fuel HH.out.2.1.good hf
        subst hff
        have HF := Hid.mk hf
        have hcf := HH.out.2.2.2.2.1.cell 1 rfl
        have HBG := Hid.mk (rbegins_any wJob n2 R t2 wr HH.out.2.1)
        clear hf
        by_cases hm : textT t2 = wJob
        · by_cases hf16 : n2 = 16
          · as_aux_lemma =>
              have HP := Hid.mk (show flowP ts = .error (4, hereT t2) by rw [hnm, parts_full hm (by rw [← HH.out.1]; exact hf16)]; rfl)
              have hbg : beginsP wJob n2 t2 = .error (4, hereT t2) := by rw [beginsP, if_pos hm, if_pos hf16]; rfl
              rw [hbg] at HBG
              clear hbg hm hf16 hnm
              go_wp2_with (go_at_call 37; fail)
              refine HBG.out.mono ?_
              rintro e wt ⟨hrs, hbt⟩
              obtain ⟨b', rfl, t0, t1', tB, tl⟩ := hrs.err
              go_wp2
              exact ⟨rfl, Or.inr ⟨_, HP.out, b', rfl, t0, t1', Nat.le_trans HH.out.2.2.1.size tB, tl⟩, HH.out.2.2.1.then (But.of hbt)⟩
          · as_aux_lemma =>
              have EL := Hid.mk (show flowP ts = (jobP t2).bind fun y => (partsP wJob jobP f' (acc2 ++ [y.1]) y.2).bind (fun j => (partsP wOut publishP j.2.length [] j.2).bind fun o => lastP ⟨acc1, j.1, o.1⟩ o.2) by rw [hnm, parts_yes hm (by rw [← HH.out.1]; exact hf16), bind_assoc])
              have hbg : beginsP wJob n2 t2 = .ok (true, t2) := by rw [beginsP, if_pos hm, if_neg hf16]
              rw [hbg] at HBG
              have hn16 : n2 < 16 := by omega
              clear hbg hm hf16 hnm
              go_wp2_with (go_at_call 37; fail)
              refine HBG.out.mono ?_
              rintro e wl ⟨hrs, hbt⟩
              obtain ⟨vb, rfl, hvb, hrd⟩ := hrs.ok
              unfold encB at hvb
              subst hvb
              have HL := Hid.mk hrd
              have BL := Hid.mk (HH.out.2.2.1.then (But.of hbt))
              have XL := Hid.mk (HH.out.2.2.2.1.below hbt)
              have YL := Hid.mk (HH.out.2.2.2.2.1.below hbt)
              have FLW := Hid.mk (HH.out.2.2.2.2.2.1.imp (fun e z n v xs h => h.kept (grown_below hbt none) (by cases v.ownBlock <;> simp)))
              have OL : Hid (wl.ownsRow (w.heap.size + 2) 61 15 (.slice va n2 vcp) n2 (jobsV acc2 vs2)) := Hid.mk (by have h := FLW.out.row; rw [← HH.out.1] at h; exact h)
              have qa1 := XL.out.lt
              have qa2 := YL.out.lt
              clear hrd hbt hrs
              have hjl := jobV_len
              have hjf := jobV_fold
              have cf2101 := YL.out.cell 1 rfl
              have cf2102 := YL.out.fz 1
              have cl2103 := YL.out.lt
              go_wp2_with fail
              cases hcp : jobP t2 with
              | error er =>
                have HP := Hid.mk (bind_err EL.out hcp)
                have HC := Hid.mk (rjob_any R t2 _ HL.out.drew)
                rw [hcp] at HC
                refine wp_region_held_drew (S := fun V => V.cell? ⟨w.heap.size + 1, 1, none⟩ = some (.slice va n2 vcp)) (by kernel_rfl) (YL.out.cell 1 rfl) (fun hHeld => ?_)
                refine wpAnyH_take (i := 0) (v := .pointer (some ⟨w.heap.size + 1, 1, none⟩)) rfl (by kernel_rfl) (by kernel_rfl) (by kernel_rfl) (fun _ _ _ h => h) (Or.inl ⟨by rfl, ?_⟩) (by assumption) ?_
                · intro V hV
                  go_simp
                simp only [List.getElem_toArray, List.getElem_cons_zero, List.getElem_cons_succ, Act.put, List.setIfInBounds_toArray, List.set_cons_zero, List.set_cons_succ]
                refine wpAnyH_take (i := 1) (v := .slice va n2 vcp) rfl (by kernel_rfl) (by kernel_rfl) (by kernel_rfl) (fun _ _ _ h => h) (Or.inl ⟨by rfl, ?_⟩) (by assumption) ?_
                · intro V hV
                  go_simp
                simp only [List.getElem_toArray, List.getElem_cons_zero, List.getElem_cons_succ, Act.put, List.setIfInBounds_toArray, List.set_cons_zero, List.set_cons_succ]
                refine wpAnyH_take (i := 2) (v := .pointer (some ⟨R, 0, none⟩)) rfl (by kernel_rfl) (by kernel_rfl) (by kernel_rfl) (fun _ _ _ h => h) (Or.inl ⟨by rfl, ?_⟩) (by assumption) ?_
                · intro V hV
                  go_simp
                simp only [List.getElem_toArray, List.getElem_cons_zero, List.getElem_cons_succ, Act.put, List.setIfInBounds_toArray, List.set_cons_zero, List.set_cons_succ]
                refine wpAnyH_ready (rs := [3]) (by kernel_rfl) (by simp) ?_
                refine AllReadyH.cons rfl (fun K hK => ?_) AllReadyH.nil
                go_simp
                refine HC.out.mono ?_
                rintro e wt ⟨hrs, hbt⟩
                obtain ⟨b', rfl, t0, t1, tB, tl⟩ := hrs.err
                go_wp2
                exact ⟨rfl, Or.inr ⟨_, HP.out, b', rfl, t0, t1, Nat.le_trans BL.out.size tB, tl⟩, BL.out.drew.then hbt⟩
              | ok z =>
                obtain ⟨a, tn⟩ := z
                have HC := Hid.mk (rjob_any R t2 _ HL.out.drew)
                rw [hcp] at HC
                have HCP := Hid.mk hcp
                clear hcp
                have hlt2 := le_job t2 a tn HCP.out
                have htl := tails_lt HH.out.2.1.good
                rw [List.length_tail] at htl
                have EN := Hid.mk (bind_ok EL.out HCP.out)
                go_region_law (first | (go_simp; go_at_call 39; refine HC.out.mono ?_; rintro e wa4 ⟨hrs, hb4⟩; obtain ⟨ve, rfl, hve, hrd4⟩ := hrs.ok; obtain ⟨vo1, vi1, vc1, hv1, hv2, hv3, hv4⟩ := hve; obtain ⟨oa, oc, hv5⟩ := own_slice hv2; obtain ⟨ia, ic, hv6⟩ := own_slice hv3; obtain ⟨ca, cc, hv7⟩ := own_slice hv4; subst hv5; subst hv6; subst hv7; subst hv1; have X4 := (YL.out.block (w' := wl.drew) rfl).but hb4 (by omega); have c4 := X4.cell 1 rfl; have l4 := X4.lt; have RD4 := Hid.mk hrd4; have BU4 := Hid.mk (BL.out.drew.then hb4); have sz4 := BU4.out.size; have OW4 := Hid.mk ((own_but (OL.out.drew) hb4 (by omega)).alloc (.cells (jobV a (.slice oa a.outs.length oc) (.slice ia a.ins.length ic) (.slice ca a.cols.length cc)).toArray 61)); have XB4 := Hid.mk X4; have X4r := Hid.mk ((XL.out.block (w' := wl.drew) rfl).but hb4 (by omega)); have FL4 := Hid.mk ((FLW.out.imp (fun e z n v xs h => own_but (h.drew) hb4 (by omega))).imp (fun e z n v xs h => h.alloc (.cells (jobV a (.slice oa a.outs.length oc) (.slice ia a.ins.length ic) (.slice ca a.cols.length cc)).toArray 61))); have EC4 := Hid.mk (show encL (w.heap.size + 2) a.outs (.slice oa a.outs.length oc) (wa4.alloc (.cells (jobV a (.slice oa a.outs.length oc) (.slice ia a.ins.length ic) (.slice ca a.cols.length cc)).toArray 61)) ∧ encL (w.heap.size + 2) a.ins (.slice ia a.ins.length ic) (wa4.alloc (.cells (jobV a (.slice oa a.outs.length oc) (.slice ia a.ins.length ic) (.slice ca a.cols.length cc)).toArray 61)) ∧ encL (w.heap.size + 2) a.cols (.slice ca a.cols.length cc) (wa4.alloc (.cells (jobV a (.slice oa a.outs.length oc) (.slice ia a.ins.length ic) (.slice ca a.cols.length cc)).toArray 61)) from ⟨(own_mono (by simp only [World.drew] at *; omega) hv2).alloc _, (own_mono (by simp only [World.drew] at *; omega) hv3).alloc _, (own_mono (by simp only [World.drew] at *; omega) hv4).alloc _⟩); clear hrs hb4 hrd4 X4) | (refine step_append_lies _ (by rfl) _ _ _ (by rfl) ((w.heap.size + 2)) 61 i2 _ 15 208 Tryz.underlying28 hi2 hz20 hz21 hz22 rfl (by omega) (.slice va n2 vcp) (n2) _ (by rfl) OW4.out ⟨wa4.heap.size, 0, none⟩ 1 1 (jobV a (.slice oa a.outs.length oc) (.slice ia a.ins.length ic) (.slice ca a.cols.length cc)) (by rfl) (by rfl) (news_blk wa4 (jobV a (.slice oa a.outs.length oc) (.slice ia a.ins.length ic) (.slice ca a.cols.length cc)) 61 _ rfl) (by simp [jobV, Value.oneCell']) (by omega) (by unfold maxLen; omega) (by omega) (by simp; omega) (wa4.heap.size + 1) (by simp) ?_; intro gg cap wb5 hown5 hgrow5 hat5 hlt5; have X5 := Hid.mk ((XB4.out.below (below_box wa4 (.cells (jobV a (.slice oa a.outs.length oc) (.slice ia a.ins.length ic) (.slice ca a.cols.length cc)).toArray 61))).grown hgrow5 (by intro e; have := OW4.out.lt _ e; omega)); have c5 := X5.out.cell 1 rfl; have f5 := X5.out.fz 1; have l5 := X5.out.lt; have HG5 := Hid.mk hgrow5; have HO5 := Hid.mk hown5; have HO5c : wb5.ownsRow (w.heap.size + 2) 61 15 _ (acc2.length + 1) _ := (by rw [← HH.out.1]; exact hown5); have FL5 := Hid.mk (FL4.out.step EC4.out hgrow5 HO5c); clear HO5c;  clear hat5; clear hgrow5 hown5))
                all_goals
                  (go_wp2_with fail
                   go_roundg (16 - (n2 + 1))
                   case measure => omega
                   case rel => exact ⟨acc2 ++ [a], tn, n2 + 1, _, vs2 ++ [(.slice oa a.outs.length oc, .slice ia a.ins.length ic, .slice ca a.cols.length cc)], by omega, Nat.le_refl _, by simp [HH.out.1], (((RD4.out.below (below_box _ _)).grown HG5.out (fun q hq => by have := OW4.out.lt q hq; omega)).set (by omega)), (((BU4.out.box _).grown HG5.out (fun q hq => by have := OW4.out.lt q hq; omega)).put (by omega) _), (((X4r.out.below (below_box _ _)).grown HG5.out (by intro e; have := OW4.out.lt _ e; omega)).other _ _ (by omega)), (X5.out.set _ _), FL5.out.imp (fun e z n v xs h => ownsRow_setCell_below h (a := ⟨w.heap.size + 1, 1, none⟩) (by show w.heap.size + 1 < _; omega) _), f', by have := HF.out; omega, EN.out⟩)
        · have hbg : beginsP wJob n2 t2 = .ok (false, t2) := by rw [beginsP, if_neg hm]
          rw [hbg] at HBG
          have he := hnm
          rw [parts_no hm] at he
          have he2 := bind_ok he rfl
          dsimp only at he2
          have EX2 := Hid.mk he2
          clear hbg hm hnm he he2
          go_wp2_with (go_at_call 37; fail)
          refine HBG.out.mono ?_
          rintro e wx2 ⟨hrs, hbt⟩
          obtain ⟨vb, rfl, hvb, hrd⟩ := hrs.ok
          unfold encB at hvb
          subst hvb
          have HX2 := Hid.mk hrd
          have BX2 := Hid.mk (HH.out.2.2.1.then (But.of hbt))
          have XX2 := Hid.mk (HH.out.2.2.2.1.below hbt)
          have YX2 := Hid.mk (HH.out.2.2.2.2.1.below hbt)
          have FX2 := Hid.mk (HH.out.2.2.2.2.2.1.imp (fun e z n v xs h => h.kept (grown_below hbt none) (by cases v.ownBlock <;> simp)))
          have HN2 := Hid.mk HH.out.1
          have qx2 := XX2.out.lt
          have qy2 := YX2.out.lt
          clear hrd hbt hrs HH HBG HF hcf hqr hqf
          obtain ⟨vj, hvv⟩ : ∃ x, x = Value.slice va n2 vcp := ⟨_, rfl⟩
          rw [← hvv] at FX2 YX2
          have HV2 := Hid.mk hvv
          clear hvv
          go_wp2_with fail
          go_loopg [] 17 (fun g wr => ∃ (acc3 : List FOut) (t3 : List Tk) (n3 : Nat) (vo : Value), n3 ≤ 16 ∧ 16 - n3 ≤ g ∧ Aside (n3 = acc3.length ∧ RD wr R t3 ∧ But R w wr ∧ Box wr w.heap.size [.slice none 0 0, .slice none 0 0, .slice none 0 0] ∧ Box wr (w.heap.size + 1) [vi, vj, vo] ∧ FlowO wr (w.heap.size + 2) acc1 vi acc2 vj acc3 vo ∧ ∃ f, t3.length ≤ f ∧ flowP ts = (partsP wOut publishP f acc3 t3).bind (fun o => lastP ⟨acc1, acc2, o.1⟩ o.2)))
          case atStart => exact ⟨[], t2, 0, .slice none 0 0, by omega, by omega, rfl, HX2.out, BX2.out, XX2.out, YX2.out, FlowO.nil FX2.out, _, Nat.le_refl _, EX2.out⟩
          case round =>
            obtain ⟨acc3, t3, n3, vo, hn, hg, HH⟩ := hrel
            clear HX2 BX2 EX2 XX2 YX2 FX2
            obtain ⟨va, vcp, hvv⟩ := own_slice HH.out.2.2.2.2.2.1.row
            have hnl := HH.out.1
            rw [← hnl] at hvv
            clear hnl
            subst hvv
            have hqr := HH.out.2.2.2.1.lt
            have hqf := HH.out.2.2.2.2.1.lt
            obtain ⟨f0, hf, hnm⟩ := HH.out.2.2.2.2.2.2
            obtain ⟨f', hff⟩ := good_fuel HH.out.2.1.good hf
            subst hff
            have HF := Hid.mk hf
            have hcf := HH.out.2.2.2.2.1.cell 2 rfl
            have HBG := Hid.mk (rbegins_any wOut n3 R t3 wr HH.out.2.1)
            clear hf
            by_cases hm : textT t3 = wOut
            · by_cases hf16 : n3 = 16
              · as_aux_lemma =>
                  have HP := Hid.mk (show flowP ts = .error (4, hereT t3) by rw [hnm, parts_full hm (by rw [← HH.out.1]; exact hf16)]; rfl)
                  have hbg : beginsP wOut n3 t3 = .error (4, hereT t3) := by rw [beginsP, if_pos hm, if_pos hf16]; rfl
                  rw [hbg] at HBG
                  clear hbg hm hf16 hnm
                  go_wp2_with (go_at_call 37; fail)
                  refine HBG.out.mono ?_
                  rintro e wt ⟨hrs, hbt⟩
                  obtain ⟨b', rfl, t0, t1', tB, tl⟩ := hrs.err
                  go_wp2
                  exact ⟨rfl, Or.inr ⟨_, HP.out, b', rfl, t0, t1', Nat.le_trans HH.out.2.2.1.size tB, tl⟩, HH.out.2.2.1.then (But.of hbt)⟩
              · as_aux_lemma =>
                  have EL := Hid.mk (show flowP ts = (publishP t3).bind fun y => (partsP wOut publishP f' (acc3 ++ [y.1]) y.2).bind (fun o => lastP ⟨acc1, acc2, o.1⟩ o.2) by rw [hnm, parts_yes hm (by rw [← HH.out.1]; exact hf16), bind_assoc])
                  have hbg : beginsP wOut n3 t3 = .ok (true, t3) := by rw [beginsP, if_pos hm, if_neg hf16]
                  rw [hbg] at HBG
                  have hn16 : n3 < 16 := by omega
                  clear hbg hm hf16 hnm
                  go_wp2_with (go_at_call 37; fail)
                  refine HBG.out.mono ?_
                  rintro e wl ⟨hrs, hbt⟩
                  obtain ⟨vb, rfl, hvb, hrd⟩ := hrs.ok
                  unfold encB at hvb
                  subst hvb
                  have HL := Hid.mk hrd
                  have BL := Hid.mk (HH.out.2.2.1.then (But.of hbt))
                  have XL := Hid.mk (HH.out.2.2.2.1.below hbt)
                  have YL := Hid.mk (HH.out.2.2.2.2.1.below hbt)
                  have FLW := Hid.mk (HH.out.2.2.2.2.2.1.imp (fun e z n v xs h => h.kept (grown_below hbt none) (by cases v.ownBlock <;> simp)))
                  have OL : Hid (wl.ownsRow (w.heap.size + 2) 66 3 (.slice va n3 vcp) n3 (outsV acc3)) := Hid.mk (by have h := FLW.out.row; rw [← HH.out.1] at h; exact h)
                  have qa1 := XL.out.lt
                  have qa2 := YL.out.lt
                  clear hrd hbt hrs
                  have cf3101 := YL.out.cell 2 rfl
                  have cf3102 := YL.out.fz 2
                  have cl3103 := YL.out.lt
                  go_wp2_with fail
                  cases hcp : publishP t3 with
                  | error er =>
                    have HP := Hid.mk (bind_err EL.out hcp)
                    have HC := Hid.mk (rpublish_any R t3 _ HL.out.drew)
                    rw [hcp] at HC
                    refine wp_region_held_drew (S := fun V => V.cell? ⟨w.heap.size + 1, 2, none⟩ = some (.slice va n3 vcp)) (by kernel_rfl) (YL.out.cell 2 rfl) (fun hHeld => ?_)
                    refine wpAnyH_take (i := 0) (v := .pointer (some ⟨w.heap.size + 1, 2, none⟩)) rfl (by kernel_rfl) (by kernel_rfl) (by kernel_rfl) (fun _ _ _ h => h) (Or.inl ⟨by rfl, ?_⟩) (by assumption) ?_
                    · intro V hV
                      go_simp
                    simp only [List.getElem_toArray, List.getElem_cons_zero, List.getElem_cons_succ, Act.put, List.setIfInBounds_toArray, List.set_cons_zero, List.set_cons_succ]
                    refine wpAnyH_take (i := 1) (v := .slice va n3 vcp) rfl (by kernel_rfl) (by kernel_rfl) (by kernel_rfl) (fun _ _ _ h => h) (Or.inl ⟨by rfl, ?_⟩) (by assumption) ?_
                    · intro V hV
                      go_simp
                    simp only [List.getElem_toArray, List.getElem_cons_zero, List.getElem_cons_succ, Act.put, List.setIfInBounds_toArray, List.set_cons_zero, List.set_cons_succ]
                    refine wpAnyH_take (i := 2) (v := .pointer (some ⟨R, 0, none⟩)) rfl (by kernel_rfl) (by kernel_rfl) (by kernel_rfl) (fun _ _ _ h => h) (Or.inl ⟨by rfl, ?_⟩) (by assumption) ?_
                    · intro V hV
                      go_simp
                    simp only [List.getElem_toArray, List.getElem_cons_zero, List.getElem_cons_succ, Act.put, List.setIfInBounds_toArray, List.set_cons_zero, List.set_cons_succ]
                    refine wpAnyH_ready (rs := [3]) (by kernel_rfl) (by simp) ?_
                    refine AllReadyH.cons rfl (fun K hK => ?_) AllReadyH.nil
                    go_simp
                    refine HC.out.mono ?_
                    rintro e wt ⟨hrs, hbt⟩
                    obtain ⟨b', rfl, t0, t1, tB, tl⟩ := hrs.err
                    go_wp2
                    exact ⟨rfl, Or.inr ⟨_, HP.out, b', rfl, t0, t1, Nat.le_trans BL.out.size tB, tl⟩, BL.out.drew.then hbt⟩
                  | ok z =>
                    obtain ⟨a, tn⟩ := z
                    have HC := Hid.mk (rpublish_any R t3 _ HL.out.drew)
                    rw [hcp] at HC
                    have HCP := Hid.mk hcp
                    clear hcp
                    have hlt2 := le_publish t3 a tn HCP.out
                    have htl := tails_lt HH.out.2.1.good
                    rw [List.length_tail] at htl
                    have EN := Hid.mk (bind_ok EL.out HCP.out)
                    go_region_law (first | (go_simp; go_at_call 40; refine HC.out.mono ?_; rintro e wa4 ⟨hrs, hb4⟩; obtain ⟨ve, rfl, hve, hrd4⟩ := hrs.ok; unfold encO at hve; subst hve; have X4 := (YL.out.block (w' := wl.drew) rfl).but hb4 (by omega); have c4 := X4.cell 2 rfl; have l4 := X4.lt; have RD4 := Hid.mk hrd4; have BU4 := Hid.mk (BL.out.drew.then hb4); have sz4 := BU4.out.size; have OW4 := Hid.mk ((own_but (OL.out.drew) hb4 (by omega)).alloc (.cells #[.int .i64 (a.at_ : Nat), .string (ba a.name), .string (ba a.from_)] 66)); have XB4 := Hid.mk X4; have X4r := Hid.mk ((XL.out.block (w' := wl.drew) rfl).but hb4 (by omega)); have FL4 := Hid.mk ((FLW.out.imp (fun e z n v xs h => own_but (h.drew) hb4 (by omega))).imp (fun e z n v xs h => h.alloc (.cells #[.int .i64 (a.at_ : Nat), .string (ba a.name), .string (ba a.from_)] 66))); clear hrs hb4 hrd4 X4) | (refine step_append_lies _ (by rfl) _ _ _ (by rfl) ((w.heap.size + 2)) 66 i3 _ 3 40 Tryz.underlying29 hi3 hz30 hz31 hz32 rfl (by omega) (.slice va n3 vcp) (n3) _ (by rfl) OW4.out ⟨wa4.heap.size, 0, none⟩ 1 1 [.int .i64 (a.at_ : Nat), .string (ba a.name), .string (ba a.from_)] (by rfl) (by rfl) (news_blk wa4 [.int .i64 (a.at_ : Nat), .string (ba a.name), .string (ba a.from_)] 66 _ rfl) (by simp [Value.oneCell']) (by omega) (by unfold maxLen; omega) (by omega) (by simp; omega) (wa4.heap.size + 1) (by simp) ?_; intro gg cap wb5 hown5 hgrow5 hat5 hlt5; have X5 := Hid.mk ((XB4.out.below (below_box wa4 (.cells #[.int .i64 (a.at_ : Nat), .string (ba a.name), .string (ba a.from_)] 66))).grown hgrow5 (by intro e; have := OW4.out.lt _ e; omega)); have c5 := X5.out.cell 2 rfl; have f5 := X5.out.fz 2; have l5 := X5.out.lt; have HG5 := Hid.mk hgrow5; have HO5 := Hid.mk hown5; have HO5c : wb5.ownsRow (w.heap.size + 2) 66 3 _ (acc3.length + 1) _ := (by rw [← HH.out.1]; exact hown5); have FL5 := Hid.mk (FL4.out.step hgrow5 HO5c); clear HO5c;  clear hat5; clear hgrow5 hown5))
                    all_goals
                      (go_wp2_with fail
                       go_roundg (16 - (n3 + 1))
                       case measure => omega
                       case rel => exact ⟨acc3 ++ [a], tn, n3 + 1, _, by omega, Nat.le_refl _, by simp [HH.out.1], (((RD4.out.below (below_box _ _)).grown HG5.out (fun q hq => by have := OW4.out.lt q hq; omega)).set (by omega)), (((BU4.out.box _).grown HG5.out (fun q hq => by have := OW4.out.lt q hq; omega)).put (by omega) _), (((X4r.out.below (below_box _ _)).grown HG5.out (by intro e; have := OW4.out.lt _ e; omega)).other _ _ (by omega)), (X5.out.set _ _), FL5.out.imp (fun e z n v xs h => ownsRow_setCell_below h (a := ⟨w.heap.size + 1, 2, none⟩) (by show w.heap.size + 1 < _; omega) _), f', by have := HF.out; omega, EN.out⟩)
            · have hbg : beginsP wOut n3 t3 = .ok (false, t3) := by rw [beginsP, if_neg hm]
              rw [hbg] at HBG
              have he := hnm
              rw [parts_no hm] at he
              have he2 := bind_ok he rfl
              dsimp only at he2
              have EX3 := Hid.mk he2
              clear hbg hm hnm he he2
              go_wp2_with (go_at_call 37; fail)
              refine HBG.out.mono ?_
              rintro e wx3 ⟨hrs, hbt⟩
              obtain ⟨vb, rfl, hvb, hrd⟩ := hrs.ok
              unfold encB at hvb
              subst hvb
              have HX3 := Hid.mk hrd
              have BX3 := Hid.mk (HH.out.2.2.1.then (But.of hbt))
              have XX3 := Hid.mk (HH.out.2.2.2.1.below hbt)
              have YX3 := Hid.mk (HH.out.2.2.2.2.1.below hbt)
              have FX3 := Hid.mk (HH.out.2.2.2.2.2.1.imp (fun e z n v xs h => h.kept (grown_below hbt none) (by cases v.ownBlock <;> simp)))
              have HN3 := Hid.mk HH.out.1
              have qx3 := XX3.out.lt
              have qy3 := YX3.out.lt
              clear hrd hbt hrs HH HBG HF hcf hqr hqf
              obtain ⟨vo, hvv⟩ : ∃ x, x = Value.slice va n3 vcp := ⟨_, rfl⟩
              rw [← hvv] at FX3 YX3
              have HV3 := Hid.mk hvv
              clear hvv
              obtain ⟨va1, vc1, hq1⟩ : ∃ a c, vi = Value.slice a n1 c := ⟨_, _, HV1.out⟩
              obtain ⟨va2, vc2, hq2⟩ : ∃ a c, vj = Value.slice a n2 c := ⟨_, _, HV2.out⟩
              obtain ⟨va3, vc3, hq3⟩ : ∃ a c, vo = Value.slice a n3 c := ⟨_, _, HV3.out⟩
              clear HV1 HV2 HV3
              subst hq1 hq2 hq3
              have cf8 := YX3.out.cell 0 rfl
              have cl9 := YX3.out.lt
              have HBG := Hid.mk (rbegins_any wIn n1 R t3 wx3 HX3.out)
              by_cases hb16 : textT t3 = wIn ∧ n1 = 16
              · have HP := Hid.mk (show flowP ts = .error (4, hereT t3) by rw [EX3.out, lastP, if_pos ⟨hb16.1, by rw [← HN1.out]; exact hb16.2⟩])
                have hbg : beginsP wIn n1 t3 = .error (4, hereT t3) := by rw [beginsP, if_pos hb16.1, if_pos hb16.2]; rfl
                rw [hbg] at HBG
                clear hbg hb16
                go_wp2_with (go_at_call 37; fail)
                refine HBG.out.mono ?_
                rintro e wt ⟨hrs, hbt⟩
                obtain ⟨b', rfl, t0, t1', tB, tl⟩ := hrs.err
                go_wp2
                exact ⟨rfl, Or.inr ⟨_, HP.out, b', rfl, t0, t1', Nat.le_trans BX3.out.size tB, tl⟩, BX3.out.then (But.of hbt)⟩
              obtain ⟨bb1, hbg⟩ : ∃ b, beginsP wIn n1 t3 = .ok (b, t3) := by
                unfold beginsP
                by_cases hx : textT t3 = wIn
                · exact ⟨true, by rw [if_pos hx, if_neg (fun h => hb16 ⟨hx, h⟩)]⟩
                · exact ⟨false, by rw [if_neg hx]⟩
              rw [hbg] at HBG
              clear hbg
              have hb1 := hb16
              clear hb16
              go_wp2_with (go_at_call 37; fail)
              refine HBG.out.mono ?_
              rintro e wy1 ⟨hrs, hbt⟩
              obtain ⟨vb, rfl, hvb, hrd⟩ := hrs.ok
              unfold encB at hvb
              subst hvb
              have HY1 := Hid.mk hrd
              have BY1 := Hid.mk (BX3.out.then (But.of hbt))
              have RY1 := Hid.mk (XX3.out.below hbt)
              have FY1 := Hid.mk (YX3.out.below hbt)
              have OY1 := Hid.mk (FX3.out.imp (fun e z n v xs h => h.kept (grown_below hbt none) (by cases v.ownBlock <;> simp)))
              clear hrd hbt hrs HBG HX3 BX3 XX3 YX3 FX3
              have qr1 := RY1.out.lt
              have qf1 := FY1.out.lt
              have cf10 := FY1.out.cell 1 rfl
              have cl11 := FY1.out.lt
              have HBG := Hid.mk (rbegins_any wJob n2 R t3 wy1 HY1.out)
              by_cases hb16 : textT t3 = wJob ∧ n2 = 16
              · have HP := Hid.mk (show flowP ts = .error (4, hereT t3) by rw [EX3.out, lastP, if_neg (by rw [← HN1.out]; exact hb1), if_pos ⟨hb16.1, by rw [← HN2.out]; exact hb16.2⟩])
                have hbg : beginsP wJob n2 t3 = .error (4, hereT t3) := by rw [beginsP, if_pos hb16.1, if_pos hb16.2]; rfl
                rw [hbg] at HBG
                clear hbg hb16
                go_wp2_with (go_at_call 37; fail)
                refine HBG.out.mono ?_
                rintro e wt ⟨hrs, hbt⟩
                obtain ⟨b', rfl, t0, t1', tB, tl⟩ := hrs.err
                go_wp2
                exact ⟨rfl, Or.inr ⟨_, HP.out, b', rfl, t0, t1', Nat.le_trans BY1.out.size tB, tl⟩, BY1.out.then (But.of hbt)⟩
              obtain ⟨bb2, hbg⟩ : ∃ b, beginsP wJob n2 t3 = .ok (b, t3) := by
                unfold beginsP
                by_cases hx : textT t3 = wJob
                · exact ⟨true, by rw [if_pos hx, if_neg (fun h => hb16 ⟨hx, h⟩)]⟩
                · exact ⟨false, by rw [if_neg hx]⟩
              rw [hbg] at HBG
              clear hbg
              have hb2 := hb16
              clear hb16
              go_wp2_with (go_at_call 37; fail)
              refine HBG.out.mono ?_
              rintro e wy2 ⟨hrs, hbt⟩
              obtain ⟨vb, rfl, hvb, hrd⟩ := hrs.ok
              unfold encB at hvb
              subst hvb
              have HY2 := Hid.mk hrd
              have BY2 := Hid.mk (BY1.out.then (But.of hbt))
              have RY2 := Hid.mk (RY1.out.below hbt)
              have FY2 := Hid.mk (FY1.out.below hbt)
              have OY2 := Hid.mk (OY1.out.imp (fun e z n v xs h => h.kept (grown_below hbt none) (by cases v.ownBlock <;> simp)))
              clear hrd hbt hrs HBG HY1 BY1 RY1 FY1 OY1
              have qr2 := RY2.out.lt
              have qf2 := FY2.out.lt
              obtain ⟨b, o, cc, nn, hc, hn', hcc, hb, hRb, hn1', k0, k1, k2⟩ := HY2.out.head
              clear hn'
              have hlR := HY2.out.lt
              by_cases hk : kindT t3 = 4
              · as_aux_lemma =>
                  have hkz : ((kindT t3 : Int) != 4) = false := by simp [hk]
                  have HP := Hid.mk (show flowP ts = .ok ⟨acc1, acc2, acc3⟩ by rw [EX3.out, lastP, if_neg (by rw [← HN1.out]; exact hb1), if_neg (by rw [← HN2.out]; exact hb2), if_neg (by simp [hk])])
                  clear hk hb1 hb2
                  have cf12 := FY2.out.cell 0 rfl
                  have cf13 := FY2.out.cell 1 rfl
                  have cf14 := FY2.out.cell 2 rfl
                  have cl15 := FY2.out.lt
                  have x0 := RY2.out.cell 0 rfl
                  have y0 := RY2.out.fz 0
                  have x1 := RY2.out.cell 1 rfl
                  have y1 := RY2.out.fz 1
                  have x2 := RY2.out.cell 2 rfl
                  have y2 := RY2.out.fz 2
                  have hzX := RY2.out.lt
                  have HRD := Hid.mk (((HY2.out.set (i := 0) (v := .slice va1 n1 vc1) hR).set (i := 1) (v := .slice va2 n2 vc2) hR).set (i := 2) (v := .slice va3 n3 vc3) hR)
                  have HBU := Hid.mk (((BY2.out.put (Nat.le_refl _) (.slice va1 n1 vc1) (i := 0)).put (Nat.le_refl _) (.slice va2 n2 vc2) (i := 1)).put (Nat.le_refl _) (.slice va3 n3 vc3) (i := 2))
                  have HBX := Hid.mk (((RY2.out.set 0 (.slice va1 n1 vc1)).set 1 (.slice va2 n2 vc2)).set 2 (.slice va3 n3 vc3))
                  have z0 := HBX.out.cell 0 rfl
                  have z1 := HBX.out.cell 1 rfl
                  have z2 := HBX.out.cell 2 rfl
                  clear HBX
                  go_wp2
                  refine bodyPost_ret (v := .agg #[.slice va1 n1 vc1, .slice va2 n2 vc2, .slice va3 n3 vc3]) (by simp [results, Tryz.results19, go_sem, z0, z1, z2]) rfl ?_
                  exact ⟨Or.inl ⟨_, _, _, _, HP.out, rfl, (((OY2.out.imp (fun e z n v xs h => ownsRow_setCell_below h (a := ⟨w.heap.size, 0, none⟩) (by show w.heap.size < _; omega) _)).imp (fun e z n v xs h => ownsRow_setCell_below h (a := ⟨w.heap.size, 1, none⟩) (by show w.heap.size < _; omega) _)).imp (fun e z n v xs h => ownsRow_setCell_below h (a := ⟨w.heap.size, 2, none⟩) (by show w.heap.size < _; omega) _))⟩, HBU.out⟩
              · have hkz : ((kindT t3 : Int) != 4) = true := by simp; omega
                have HP := Hid.mk (show flowP ts = .error (3, hereT t3) by rw [EX3.out, lastP, if_neg (by rw [← HN1.out]; exact hb1), if_neg (by rw [← HN2.out]; exact hb2), if_pos hk])
                clear hk hb1 hb2
                go_wp2_with (go_at_call 41; refine (rwrong_any _ _ _ _ HY2.out).mono ?_; rintro e w'' ⟨rfl, rfl⟩)
                exact ⟨rfl, Or.inr ⟨_, HP.out, thr_new _ _ _ BY2.out.size⟩, BY2.out.box _⟩
end Go.Proofs.YtedflhiflomoeaaGreatDoor
