import Derived.Test.YtedflhiflomoeaaGreatDoorFlwC
set_option linter.unusedSimpArgs false
set_option linter.unusedVariables false
namespace Go.Proofs.YtedflhiflomoeaaGreatDoor
open Go.RowKit

theorem quo_long {ts : List Tk} (h : GoodT ts) (hk : kindT ts = 2) : 2 ≤ (textT ts).length := by
  obtain ⟨t, r, rfl⟩ := h.ne
  exact (h.small t (by simp)).2.2.2.1 hk
theorem baX {x y : ByteArray} (h : x.data.toList = y.data.toList) : x = y := by
  cases x
  cases y
  simp at h
  simp [h]
theorem ext_ba (l : By) (a b : Nat) : (ba l).extract a b = ba ((l.drop a).take (b - a)) := by
  apply baX
  rw [ba_list]
  simp [List.extract_eq_take_drop]
def encV : By → Value → World → Prop := fun a v _ => v = .agg #[.int .i64 2, .int .i64 0, .string (ba a)]
set_option maxRecDepth 100000 in
set_option maxHeartbeats 800000 in
theorem rquo_any (R : Nat) (ts : List Tk) (w : World) (h : RD w R ts) : Calls Tryz.prog 104 #[.pointer (some ⟨R, 0, none⟩)] w fun e w' => Rs (quoP ts) encV e w.heap.size w' R ∧ But R w w' := by
  have H := Hid.mk h
  have hfld := fld_text
  clear h
  go_enter Tryz.func104, Tryz.ntmps104
  go_wp2_with (go_at_call 77; fail)
  refine (need_any 2 R ts _ (H.out.below (below_box _ _))).mono ?_
  rintro e w1 ⟨⟨hk, rfl⟩ | ⟨hk, hthr⟩, hb1⟩
  · have HB := Hid.mk (bel_then (below_box _ _) hb1)
    have H1 := Hid.mk (H.out.below HB.out)
    have X1 := Hid.mk ((Box.new w [.int .i64 0, .int .i64 0, .string ⟨#[]⟩] 57 _ rfl).below hb1)
    have HK := Hid.mk hk
    have hlen := quo_long H.out.good hk
    have hsm := text_small H.out.good
    clear hb1 hk
    go_wp2_with (go_at_call 116; fail)
    rw [ext_ba, show ((textT ts).drop 1).take ((textT ts).length - 1 - 1) = innerL (textT ts) from by rw [innerL]; congr 1]
    have HI := Hid.mk (show (innerL (textT ts)).length ≤ 1000000 by unfold innerL; rw [List.length_take]; omega)
    have HQ := Hid.mk (show quoP ts = (if rightValueB 2 0 (innerL (textT ts)) = false then wrongP 4 ts else .ok (innerL (textT ts), ts.tail)) by rw [quoP, if_neg (by simp [HK.out])])
    generalize innerL (textT ts) = q at *
    refine (rightValue_any 2 0 (ba q) (w1.alloc (.cells #[.int .i64 2, .int .i64 0, .string (ba q)] 57)) (by rw [ba_size]; have := HI.out; unfold maxLen; omega)).mono ?_
    rintro e w2 ⟨rfl, hb2⟩
    rw [ba_list]
    have HB2 := Hid.mk (bel_then (below_box _ _) hb2)
    have H2 := Hid.mk (H1.out.below HB2.out)
    have X2 := Hid.mk (X1.out.below HB2.out)
    have Q2 := Hid.mk ((Box.new w1 [.int .i64 2, .int .i64 0, .string (ba q)] 57 _ rfl).below hb2)
    have hq := Q2.out.lt
    have hz1 := X1.out.lt
    have hz2 := X2.out.lt
    have q0 := Q2.out.cell 0 rfl
    have q1 := Q2.out.cell 1 rfl
    have q2 := Q2.out.cell 2 rfl
    cases hg : rightValueB 2 0 q
    · have HP := Hid.mk (show quoP ts = .error (4, hereT ts) by rw [HQ.out, if_pos hg]; rfl)
      clear hg
      go_wp2_with (go_at_call 41; refine (rwrong_any _ _ _ _ H2.out).mono ?_; rintro e w'' ⟨rfl, rfl⟩)
      exact ⟨rfl, Or.inr ⟨_, HP.out, thr_new _ _ _ (by omega)⟩, But.of (bel_box (bel_then HB.out HB2.out) _)⟩
    · have HP := Hid.mk (show quoP ts = .ok (q, ts.tail) by rw [HQ.out, if_neg (by rw [hg]; simp)])
      clear hg
      go_wp2_with (go_at_call 78; fail)
      refine (take_any _ _ _ H2.out (Or.inl (by rw [HK.out]; decide))).mono ?_
      rintro e w3 ⟨rfl, h1, h2⟩
      have hR := H.out.lt
      have X3 := Hid.mk (X2.out.but h2 (by omega))
      have Q3 := Hid.mk (Q2.out.but h2 (by omega))
      have q0 := Q3.out.cell 0 rfl
      have q1 := Q3.out.cell 1 rfl
      have q2 := Q3.out.cell 2 rfl
      have x0 := X3.out.cell 0 rfl
      have x1 := X3.out.cell 1 rfl
      have x2 := X3.out.cell 2 rfl
      have y0 := X3.out.fz 0
      have y1 := X3.out.fz 1
      have y2 := X3.out.fz 2
      have hq3 := Q3.out.lt
      have hz3 := X3.out.lt
      have HRD := Hid.mk (((h1.set (i := 0) (v := .int .i64 2) hR).set (i := 1) (v := .int .i64 0) hR).set (i := 2) (v := .string (ba q)) hR)
      have HBU := Hid.mk (((((But.of (bel_then HB.out HB2.out)).then h2).put (Nat.le_refl _) (.int .i64 2) (i := 0)).put (Nat.le_refl _) (.int .i64 0) (i := 1)).put (Nat.le_refl _) (.string (ba q)) (i := 2))
      have HBX := Hid.mk (((X3.out.set 0 (.int .i64 2)).set 1 (.int .i64 0)).set 2 (.string (ba q)))
      have z0 := HBX.out.cell 0 rfl
      have z1 := HBX.out.cell 1 rfl
      have z2 := HBX.out.cell 2 rfl
      clear h1 h2
      go_wp2
      refine bodyPost_ret (v := .agg #[.int .i64 2, .int .i64 0, .string (ba q)]) (by simp [results, Tryz.results104, go_sem, z0, z1, z2]) rfl ?_
      exact ⟨Or.inl ⟨_, _, _, HP.out, rfl, rfl, HRD.out⟩, HBU.out⟩
  · obtain ⟨b', rfl, t0, t1, tB, tl⟩ := hthr
    have HP := Hid.mk (show quoP ts = .error (3, hereT ts) by rw [quoP, if_pos hk]; rfl)
    go_wp2
    exact ⟨rfl, Or.inr ⟨_, HP.out, b', rfl, t0, t1, by first | omega | (simp at tB; omega), tl⟩, But.of (bel_then (below_box _ _) hb1)⟩
def encA : Ag → Value → World → Prop := fun a v _ => v = .agg #[.string (ba a.1), .int .i64 a.2.1, .int .i64 a.2.2.1, .string (ba a.2.2.2)]
theorem atoi_pos {l : By} (h : (l.head?.map (·.toNat)) ≠ some 45) : 0 ≤ atoiN l := by
  unfold atoiN
  cases l with
  | nil => simp [Lib.atoiAll]
  | cons c r =>
    have hc : ¬ c.toNat = 45 := fun e => h (by simp [e])
    split
    · rename_i n hn
      unfold Lib.atoiAll at hn
      simp only [hc, or_false, false_and, if_false, not_false_eq_true, true_and] at hn
      split at hn
      · cases hn
      · cases hn
      · split at hn
        · cases hn
        · simp only [Lib.NumEnd.ok.injEq] at hn
          omega
    · unfold Lib.atoiSat
      rw [if_neg h]
      omega
    · omega
theorem num_pos {most : Int} {ts : List Tk} {n : Int} {ts' : List Tk} (hg : GoodT ts) (h : numP most ts = .ok (n, ts')) : n ≤ most ∧ 0 ≤ n := by
  unfold numP at h
  split at h
  · cases h
  · rename_i hk
    split at h
    · cases h
    · rename_i h2
      simp only [Except.ok.injEq, Prod.mk.injEq] at h
      obtain ⟨rfl, -⟩ := h
      refine ⟨by omega, atoi_pos ?_⟩
      obtain ⟨t, r, rfl⟩ := hg.ne
      exact (hg.small t (by simp)).2.2.2.2 (by simpa [kindT] using hk)
set_option maxRecDepth 100000 in
set_option maxHeartbeats 1600000 in
theorem rarg_any (R : Nat) (ts : List Tk) (w : World) (h : RD w R ts) : Calls Tryz.prog 81 #[.pointer (some ⟨R, 0, none⟩)] w fun e w' => Rs (argP ts) encA e w.heap.size w' R ∧ But R w w' := by
  have hR := h.lt
  have H0 := Hid.mk (h.below (below_box w (.cells #[.string ⟨#[]⟩, .int .i64 0, .int .i64 0, .string ⟨#[]⟩] 59)))
  obtain ⟨b, o, cc, n, hc, hn', hcc, hb, hRb, hn1, k0, k1, k2⟩ := h.head
  have X0 := Hid.mk (Box.new w [.string ⟨#[]⟩, .int .i64 0, .int .i64 0, .string ⟨#[]⟩] 59 _ rfl)
  have HB0 := Hid.mk (But.of (R := R) (below_box w (.cells #[.string ⟨#[]⟩, .int .i64 0, .int .i64 0, .string ⟨#[]⟩] 59)))
  clear h hn'
  by_cases hk0 : kindT ts = 0
  · have HA := Hid.mk (show argP ts = (nameP ts).map fun x => ((x.1, 0, 0, []), x.2) by rw [argP, if_pos hk0])
    have hz0 : ((kindT ts : Int) == 0) = true := by simp [hk0]
    clear hk0
    go_enter Tryz.func81, Tryz.ntmps81
    go_wp2_with (go_at_call 56; fail)
    refine (rname_any R ts _ H0.out).mono ?_
    rintro e w3 ⟨⟨a, ts', v, hp, rfl, hv, hrd⟩ | ⟨er, hp, hthr⟩, hb3⟩
    · unfold encS at hv
      subst hv
      have HP := Hid.mk (show argP ts = .ok ((a, 0, 0, []), ts') by rw [HA.out, hp]; rfl)
      have X3 := Hid.mk (X0.out.but hb3 (by omega))
      have H3 := Hid.mk hrd
      have B3 := Hid.mk (HB0.out.then hb3)
      clear hp hrd hb3
      have x0 := X3.out.cell 0 rfl
      have y0 := X3.out.fz 0
      have x1 := X3.out.cell 1 rfl
      have y1 := X3.out.fz 1
      have x2 := X3.out.cell 2 rfl
      have y2 := X3.out.fz 2
      have x3 := X3.out.cell 3 rfl
      have y3 := X3.out.fz 3
      have hzX := X3.out.lt
      have HRD := Hid.mk ((((H3.out.set (i := 0) (v := .string (ba a)) hR).set (i := 1) (v := .int .i64 0) hR).set (i := 2) (v := .int .i64 0) hR).set (i := 3) (v := .string ⟨#[]⟩) hR)
      have HBU := Hid.mk ((((B3.out.put (Nat.le_refl _) (.string (ba a)) (i := 0)).put (Nat.le_refl _) (.int .i64 0) (i := 1)).put (Nat.le_refl _) (.int .i64 0) (i := 2)).put (Nat.le_refl _) (.string ⟨#[]⟩) (i := 3))
      have HBX := Hid.mk ((((X3.out.set 0 (.string (ba a))).set 1 (.int .i64 0)).set 2 (.int .i64 0)).set 3 (.string ⟨#[]⟩))
      have z0 := HBX.out.cell 0 rfl
      have z1 := HBX.out.cell 1 rfl
      have z2 := HBX.out.cell 2 rfl
      have z3 := HBX.out.cell 3 rfl
      clear HBX
      go_wp2
      refine bodyPost_ret (v := .agg #[.string (ba a), .int .i64 0, .int .i64 0, .string ⟨#[]⟩]) (by simp [results, Tryz.results81, go_sem, z0, z1, z2, z3]) rfl ?_
      exact ⟨Or.inl ⟨_, _, _, HP.out, rfl, rfl, HRD.out⟩, HBU.out⟩
    · obtain ⟨b', rfl, t0, t1, tB, tl⟩ := hthr
      have HP := Hid.mk (show argP ts = .error er by rw [HA.out, hp]; rfl)
      go_wp2
      exact ⟨rfl, Or.inr ⟨_, HP.out, b', rfl, t0, t1, by first | omega | (simp at tB; omega), tl⟩, HB0.out.then hb3⟩
  · have hz0 : ((kindT ts : Int) == 0) = false := by simp; omega
    by_cases hk2 : kindT ts = 2
    · have HA := Hid.mk (show argP ts = (quoP ts).map fun x => (([], 2, 0, x.1), x.2) by rw [argP, if_neg hk0, if_pos hk2])
      have hz2 : ((kindT ts : Int) == 2) = true := by simp [hk2]
      clear hk0 hk2
      go_enter Tryz.func81, Tryz.ntmps81
      go_wp2_with (go_at_call 104; fail)
      refine (rquo_any R ts _ H0.out).mono ?_
      rintro e w3 ⟨⟨a, ts', v, hp, rfl, hv, hrd⟩ | ⟨er, hp, hthr⟩, hb3⟩
      · unfold encV at hv
        subst hv
        have HP := Hid.mk (show argP ts = .ok (([], 2, 0, a), ts') by rw [HA.out, hp]; rfl)
        have X3 := Hid.mk (X0.out.but hb3 (by omega))
        have H3 := Hid.mk hrd
        have B3 := Hid.mk (HB0.out.then hb3)
        clear hp hrd hb3
        have x0 := X3.out.cell 0 rfl
        have y0 := X3.out.fz 0
        have x1 := X3.out.cell 1 rfl
        have y1 := X3.out.fz 1
        have x2 := X3.out.cell 2 rfl
        have y2 := X3.out.fz 2
        have x3 := X3.out.cell 3 rfl
        have y3 := X3.out.fz 3
        have hzX := X3.out.lt
        have HRD := Hid.mk ((((H3.out.set (i := 0) (v := .string ⟨#[]⟩) hR).set (i := 1) (v := .int .i64 2) hR).set (i := 2) (v := .int .i64 0) hR).set (i := 3) (v := .string (ba a)) hR)
        have HBU := Hid.mk ((((B3.out.put (Nat.le_refl _) (.string ⟨#[]⟩) (i := 0)).put (Nat.le_refl _) (.int .i64 2) (i := 1)).put (Nat.le_refl _) (.int .i64 0) (i := 2)).put (Nat.le_refl _) (.string (ba a)) (i := 3))
        have HBX := Hid.mk ((((X3.out.set 0 (.string ⟨#[]⟩)).set 1 (.int .i64 2)).set 2 (.int .i64 0)).set 3 (.string (ba a)))
        have z0 := HBX.out.cell 0 rfl
        have z1 := HBX.out.cell 1 rfl
        have z2 := HBX.out.cell 2 rfl
        have z3 := HBX.out.cell 3 rfl
        clear HBX
        go_wp2
        refine bodyPost_ret (v := .agg #[.string ⟨#[]⟩, .int .i64 2, .int .i64 0, .string (ba a)]) (by simp [results, Tryz.results81, go_sem, z0, z1, z2, z3]) rfl ?_
        exact ⟨Or.inl ⟨_, _, _, HP.out, rfl, rfl, HRD.out⟩, HBU.out⟩
      · obtain ⟨b', rfl, t0, t1, tB, tl⟩ := hthr
        have HP := Hid.mk (show argP ts = .error er by rw [HA.out, hp]; rfl)
        go_wp2
        exact ⟨rfl, Or.inr ⟨_, HP.out, b', rfl, t0, t1, by first | omega | (simp at tB; omega), tl⟩, HB0.out.then hb3⟩
    · have hz2 : ((kindT ts : Int) == 2) = false := by simp; omega
      by_cases hm : textT ts = [45]
      · have HA := Hid.mk (show argP ts = (numP 1000000000 ts.tail).map fun x => (([], 1, -x.1, []), x.2) by rw [argP, if_neg hk0, if_neg hk2, if_pos hm])
        have HM := Hid.mk (may_any [45] R ts _ H0.out (by simp))
        rw [if_pos hm, show (textT ts == [45]) = true by simp [hm]] at HM
        clear hk0 hk2 hm
        go_enter Tryz.func81, Tryz.ntmps81
        go_wp2_with (go_at_call 58; fail)
        refine HM.out.mono ?_
        rintro e w2 ⟨rfl, hrd2, hb2⟩
        have H2 := Hid.mk hrd2
        have B2 := Hid.mk (HB0.out.then hb2)
        have X2 := Hid.mk (X0.out.but hb2 (by omega))
        have hs2 := hb2.size
        simp only [World.size_alloc] at hs2
        clear hrd2 hb2
        go_wp2_with (go_at_call 60; fail)
        refine (rnum_any 1000000000 R ts.tail _ H2.out).mono ?_
        rintro e w3 ⟨⟨a, ts', v, hp, rfl, hv, hrd⟩ | ⟨er, hp, hthr⟩, hb3⟩
        · unfold encI at hv
          subst hv
          have hrg := num_pos H2.out.good hp
          have hneg : IntKind.i64.wrap (-a) = -a := by rw [IntKind.wrap_i64]; omega
          have HP := Hid.mk (show argP ts = .ok (([], 1, -a, []), ts') by rw [HA.out, hp]; rfl)
          have X3 := Hid.mk (X2.out.but hb3 (by omega))
          have H3 := Hid.mk hrd
          have B3 := Hid.mk (B2.out.then hb3)
          clear hp hrd hb3 hrg
          have x0 := X3.out.cell 0 rfl
          have y0 := X3.out.fz 0
          have x1 := X3.out.cell 1 rfl
          have y1 := X3.out.fz 1
          have x2 := X3.out.cell 2 rfl
          have y2 := X3.out.fz 2
          have x3 := X3.out.cell 3 rfl
          have y3 := X3.out.fz 3
          have hzX := X3.out.lt
          have HRD := Hid.mk ((((H3.out.set (i := 0) (v := .string ⟨#[]⟩) hR).set (i := 1) (v := .int .i64 1) hR).set (i := 2) (v := .int .i64 (-a)) hR).set (i := 3) (v := .string ⟨#[]⟩) hR)
          have HBU := Hid.mk ((((B3.out.put (Nat.le_refl _) (.string ⟨#[]⟩) (i := 0)).put (Nat.le_refl _) (.int .i64 1) (i := 1)).put (Nat.le_refl _) (.int .i64 (-a)) (i := 2)).put (Nat.le_refl _) (.string ⟨#[]⟩) (i := 3))
          have HBX := Hid.mk ((((X3.out.set 0 (.string ⟨#[]⟩)).set 1 (.int .i64 1)).set 2 (.int .i64 (-a))).set 3 (.string ⟨#[]⟩))
          have z0 := HBX.out.cell 0 rfl
          have z1 := HBX.out.cell 1 rfl
          have z2 := HBX.out.cell 2 rfl
          have z3 := HBX.out.cell 3 rfl
          clear HBX
          go_wp2
          refine bodyPost_ret (v := .agg #[.string ⟨#[]⟩, .int .i64 1, .int .i64 (-a), .string ⟨#[]⟩]) (by simp [results, Tryz.results81, go_sem, z0, z1, z2, z3]) rfl ?_
          exact ⟨Or.inl ⟨_, _, _, HP.out, rfl, rfl, HRD.out⟩, HBU.out⟩
        · obtain ⟨b', rfl, t0, t1, tB, tl⟩ := hthr
          have HP := Hid.mk (show argP ts = .error er by rw [HA.out, hp]; rfl)
          go_wp2
          exact ⟨rfl, Or.inr ⟨_, HP.out, b', rfl, t0, t1, by first | omega | (simp at tB; omega), tl⟩, B2.out.then hb3⟩
      · have HA := Hid.mk (show argP ts = (numP 1000000000 ts).map fun x => (([], 1, x.1, []), x.2) by rw [argP, if_neg hk0, if_neg hk2, if_neg hm])
        have HM := Hid.mk (may_any [45] R ts _ H0.out (by simp))
        rw [if_neg hm, show (textT ts == [45]) = false by simp [hm]] at HM
        clear hk0 hk2 hm
        go_enter Tryz.func81, Tryz.ntmps81
        go_wp2_with (go_at_call 58; fail)
        refine HM.out.mono ?_
        rintro e w2 ⟨rfl, hrd2, hb2⟩
        have H2 := Hid.mk hrd2
        have B2 := Hid.mk (HB0.out.then hb2)
        have X2 := Hid.mk (X0.out.but hb2 (by omega))
        have hs2 := hb2.size
        simp only [World.size_alloc] at hs2
        clear hrd2 hb2
        go_wp2_with (go_at_call 60; fail)
        refine (rnum_any 1000000000 R ts _ H2.out).mono ?_
        rintro e w3 ⟨⟨a, ts', v, hp, rfl, hv, hrd⟩ | ⟨er, hp, hthr⟩, hb3⟩
        · unfold encI at hv
          subst hv
          have HP := Hid.mk (show argP ts = .ok (([], 1, a, []), ts') by rw [HA.out, hp]; rfl)
          have X3 := Hid.mk (X2.out.but hb3 (by omega))
          have H3 := Hid.mk hrd
          have B3 := Hid.mk (B2.out.then hb3)
          clear hp hrd hb3
          have x0 := X3.out.cell 0 rfl
          have y0 := X3.out.fz 0
          have x1 := X3.out.cell 1 rfl
          have y1 := X3.out.fz 1
          have x2 := X3.out.cell 2 rfl
          have y2 := X3.out.fz 2
          have x3 := X3.out.cell 3 rfl
          have y3 := X3.out.fz 3
          have hzX := X3.out.lt
          have HRD := Hid.mk ((((H3.out.set (i := 0) (v := .string ⟨#[]⟩) hR).set (i := 1) (v := .int .i64 1) hR).set (i := 2) (v := .int .i64 a) hR).set (i := 3) (v := .string ⟨#[]⟩) hR)
          have HBU := Hid.mk ((((B3.out.put (Nat.le_refl _) (.string ⟨#[]⟩) (i := 0)).put (Nat.le_refl _) (.int .i64 1) (i := 1)).put (Nat.le_refl _) (.int .i64 a) (i := 2)).put (Nat.le_refl _) (.string ⟨#[]⟩) (i := 3))
          have HBX := Hid.mk ((((X3.out.set 0 (.string ⟨#[]⟩)).set 1 (.int .i64 1)).set 2 (.int .i64 a)).set 3 (.string ⟨#[]⟩))
          have z0 := HBX.out.cell 0 rfl
          have z1 := HBX.out.cell 1 rfl
          have z2 := HBX.out.cell 2 rfl
          have z3 := HBX.out.cell 3 rfl
          clear HBX
          go_wp2
          refine bodyPost_ret (v := .agg #[.string ⟨#[]⟩, .int .i64 1, .int .i64 a, .string ⟨#[]⟩]) (by simp [results, Tryz.results81, go_sem, z0, z1, z2, z3]) rfl ?_
          exact ⟨Or.inl ⟨_, _, _, HP.out, rfl, rfl, HRD.out⟩, HBU.out⟩
        · obtain ⟨b', rfl, t0, t1, tB, tl⟩ := hthr
          have HP := Hid.mk (show argP ts = .error er by rw [HA.out, hp]; rfl)
          go_wp2
          exact ⟨rfl, Or.inr ⟨_, HP.out, b', rfl, t0, t1, by first | omega | (simp at tB; omega), tl⟩, B2.out.then hb3⟩
end Go.Proofs.YtedflhiflomoeaaGreatDoor
