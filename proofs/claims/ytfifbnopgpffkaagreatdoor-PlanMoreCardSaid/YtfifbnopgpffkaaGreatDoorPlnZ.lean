import Derived.Test.YtfifbnopgpffkaaGreatDoorPlnY
set_option linter.unusedSimpArgs false
set_option linter.unusedVariables false
namespace Go.Proofs.YtfifbnopgpffkaaGreatDoor.Pl
open Go.RowKit Go.Maps Go.Shelf
open Fw (By FJob Flw ba strV encL zeroJ)

theorem Holds2.dn {w w' : World} {A : AM} {m : CM} (h : Holds2 w A m) (hok : ∀ c ∈ m, CsOK c.2) (hb : Below w.heap.size w w') : Holds2 w' A m := h.imp hok (fun u cs _ hv => hv.below hb)
/-- What reads as a key that is a text is that text. -/
theorem str_inv {key : Value} {kl : Lit} (h : keyOf Tryz.prog 9 key = some kl) : ∃ x : ByteArray, key = .string x ∧ x.size ≤ maxLen ∧ kl = .string x.data.toList := by
  cases key <;> simp [keyOf, Tryz.underlying9, mapKey] at h
  exact ⟨_, rfl, h.1, h.2.symm⟩
theorem MapC.lookB {w : World} {b : Nat} {A : AM} (h : MapC w b A) (x : ByteArray) (hs : x.size ≤ maxLen) :
    (Instr.lookup 30 (.map (some b)) (.string x) false).run Tryz.prog w = .ok ((lookA A x.data.toList).getD (.slice none 0 0)) w := by
  have hkey : keyOf Tryz.prog 9 (.string x) = some (.string x.data.toList) := Dk.str_key Tryz.underlying9 x hs
  exact h.mapIs.look keyedS Tryz.underlying30 (z := .slice none 0 0) (by kernel_rfl) hkey false
theorem sees_at {D : DataW Value} {A : AM} (hs : Dk.Sees D (mvOf A)) {n : By} {v : Value} (h : ∀ zd, D.atKey (.string n) zd = .held v) : lookA A n = some v := by
  have h2 := (hs.2 (.string n)).2
  cases hm : mvOf A (.string n) with
  | none =>
    have q1 := (h (.held (.bool true))).symm.trans (h2 _)
    have q2 := (h (.held (.bool false))).symm.trans (h2 _)
    rw [hm] at q1 q2
    have := q1.symm.trans q2
    simp at this
  | some u =>
    have q1 := (h .nil).symm.trans (h2 _)
    rw [hm] at q1
    injection q1 with q1
    rw [q1]
    exact hm
theorem Holds2.find {w : World} {A : AM} {m : CM} (h : Holds2 w A m) (hok : ∀ c ∈ m, CsOK c.2) {n : By} {cs : Cs} (hl : lookM m n = some cs) : ∃ u, lookA A n = some u ∧ ColV w u cs ∧ CsOK cs := by
  have hn : n ∈ keysM m := by
    by_cases hn : n ∈ keysM m
    · exact hn
    · rw [lookM_none hn] at hl; cases hl
  obtain ⟨u, cs', h1, h2, h3, h4⟩ := h.look hn
  obtain rfl : cs = cs' := Option.some.inj (hl.symm.trans h2)
  exact ⟨u, h1, h3, hok _ h4⟩
/-- Columns in two maps, under a name. -/
theorem two_eq {w W : World} {u v : Value} {cs : Cs} (hW : Below w.heap.size w W) (hu : ColV w u cs) (hv : ColV w v cs) (hc : CsOK cs) : Calls Tryz.prog 12 #[u, v] W fun e w' => e = .returned (.bool true) ∧ Below W.heap.size W w' := by
  have := eq_cols hW hu hv hc hc
  rw [eqD_true ⟨cs, hu, hv⟩] at this
  exact this
theorem plan_len {f : Flw} {o : List Nat} {m : CM} (h : CheckOK f o m) (hf : Fw.FlwOK f) : m.length ≤ 16016 := by
  have hg := ordF_good h.2.1
  obtain ⟨hS, hk⟩ := run_sol h.1.nodup hg h.2.2
  have e1 := hk.length_eq
  have := made_len hf
  simp only [keysM, List.length_map] at e1
  omega

theorem wrap_succ {n k : Nat} (h : n ≤ 20000) (e : n + 1 = k) : wrap64 ((n : Int) + 1) = (k : Int) := by unfold wrap64; omega
theorem cast_succ {n k : Nat} (e : n + 1 = k) : (n : Int) + 1 = (k : Int) := by omega
theorem wrap_small {k : Nat} (h : k ≤ 20000) : wrap64 (k : Int) = (k : Int) := by unfold wrap64; omega
theorem pos_succ {n k : Nat} (e : n + 1 = k) : (0 : Int) < (k : Int) := by omega
theorem good_16 {f : Flw} {o : List Nat} (h : Good f o) (hj : f.jobs.length < 16) {n : Nat} (hn : o.length = n) : n ≤ 16 ∧ ∀ (j : Nat) (h : j < o.length), o[j] ≤ 16 := by
  have := h.len
  refine ⟨by omega, fun j hj => ?_⟩
  have := (h.mem o[j]).1 (List.getElem_mem hj)
  omega
theorem round_ar {q n Q M : Nat} (h : q < n) (h16 : n ≤ 16) (e : q + 1 = Q) (hM : n + 1 = M) : (q : Int) < (n : Int) ∧ wrap64 ((q : Int) + 1) = (Q : Int) ∧ (Q : Int) < (M : Int) ∧ (0 : Int) ≤ (Q : Int) ∧ (0 : Int) ≤ (q : Int) ∧ Q < M ∧ Q ≤ n := by
  refine ⟨by omega, wrap_succ (by omega) e, by omega, by omega, by omega, by omega, by omega⟩
theorem meas_ar {q n Q : Nat} (h : q < n) (e : q + 1 = Q) : n - (intOf (.int .i64 (Q : Int))).toNat < n - (intOf (.int .i64 (q : Int))).toNat := by
  show n - (Q : Int).toNat < n - (q : Int).toNat
  omega

set_option maxRecDepth 100000 in
set_option maxHeartbeats 6400000 in
theorem moreP_any (s nm : By) (w : World) (hE : Fw.FEnv w) (hgl : GErr w) (hs : (ba s).size ≤ maxLen) (hnm : (ba nm).size ≤ maxLen) :
    Calls Tryz.prog 4 #[.string (ba s), .string (ba nm)] w fun e w' => e = .returned (.bool true) ∧ Below w.heap.size w w' := by
  have hsz : (ba nm).size = nm.length := by show nm.toArray.size = _; simp
  have HPL := Hid.mk (planned_any w hE hgl)
  have HRI : Hid (∀ V, Below w.heap.size w V → Calls Tryz.prog 6 #[.string (ba s)] V fun e w' => RightR s V e w') := Hid.mk fun V hV => right_any s V (fenv_below hE hV) (cell_below hgl hV) hs
  have HE := Hid.mk (And.intro hE hgl)
  by_cases h40 : 40 < nm.length
  · have hb : (40 : Int) < ((ba nm).size : Int) := by rw [hsz]; omega
    generalize ba s = x at *
    generalize ba nm = y at *
    clear hE hgl hs hsz
    go_enter Tryz.func4, Tryz.ntmps4
    go_wp2
    go_ret
    exact ⟨rfl, Below.refl _ _⟩
  have hb : ¬ (40 : Int) < ((ba nm).size : Int) := by rw [hsz]; omega
  have HMO : Hid (∀ (f : Flw) vi vj vo V, Fw.FlowRd V f vi vj vo → Fw.FlwOK f → Calls Tryz.prog 16 #[.agg #[vi, vj, vo], .string (ba nm)] V fun e w' => MoreR f nm V e w') := Hid.mk fun f vi vj vo V h hf => more_any f vi vj vo nm V h hf (by omega)
  have HLK : Hid (∀ V b A, MapC V b A → (Instr.lookup 30 (.map (some b)) (.string (ba nm)) false).run Tryz.prog V = .ok ((lookA A nm).getD (.slice none 0 0)) V) := Hid.mk fun V b A h => h.lookB (ba nm) hnm
  generalize ba s = x at *
  generalize ba nm = y at *
  clear hE hgl hs hsz hnm
  go_enter Tryz.func4, Tryz.ntmps4
  go_wp2_with (first | (go_at_call 5; refine HPL.out.mono ?_; rintro e1 w1 ⟨rfl, hb1⟩; have HB1 := Hid.mk hb1; have HR1 := Hid.mk (HRI.out w1 hb1); clear hb1) | (go_at_call 6; fail))
  refine HR1.out.mono ?_
  rintro e2 w2 ⟨hb2, ⟨f, o, m, vi, vj, vo, hpf, hok, rfl, hfl, hfok⟩ | ⟨a1, n1, c1, a2, n2, c2, a3, n3, c3, rfl⟩⟩
  · obtain ⟨ia, ic, rfl⟩ := row_slice hfl.ins
    obtain ⟨ja, jc, rfl⟩ := row_slice hfl.jobs
    obtain ⟨oa, oc, rfl⟩ := row_slice hfl.outs
    obtain ⟨w3, hw3⟩ : ∃ x, w2.alloc (.cells #[.slice ia f.ins.length ic, .slice ja f.jobs.length jc, .slice oa f.outs.length oc] 27) = x := ⟨_, rfl⟩
    have hb23 : Below w2.heap.size w2 w3 := by rw [← hw3]; exact below_box _ _
    have hF3 : FBox w3 w2.heap.size (.slice ia f.ins.length ic) (.slice ja f.jobs.length jc) (.slice oa f.outs.length oc) := by rw [← hw3]; exact FBox.new _ _ _ _ _
    have HF3 := Hid.mk hF3
    have HFL := Hid.mk (And.intro (hfl.below hb23) (And.intro hfok hok))
    have HB2 := Hid.mk (bel_then HB1.out hb2)
    have HB3 := Hid.mk (bel_then HB1.out (bel_then hb2 hb23))
    have HM3 := Hid.mk (HMO.out f _ _ _ w3 (hfl.below hb23) hfok)
    have g1 := hF3.1
    have g2 := hF3.2.1
    have g3 := hF3.2.2
    clear hfl hfok hok hpf hb2 hb23 hF3
    generalize f.ins.length = I at *
    generalize f.jobs.length = J at *
    generalize f.outs.length = O at *
    go_wp2_with (first | (go_at_call 16; fail))
    refine HM3.out.mono ?_
    rintro e4 w4 ⟨hb4, ⟨i0, ui, gv, uo, hi0, hJ16, hno, rfl, hgl⟩ | ⟨a1, n1, c1, a2, n2, c2, a3, n3, c3, rfl⟩⟩
    · have hmem : i0 ∈ f.ins := List.mem_of_getElem? hi0
      obtain ⟨m', hok', hlk, hkm, hln⟩ := more_ok HFL.out.2.2 hmem hno
      have hgok : Fw.FlwOK (moreF f i0.name nm) := more_fok HFL.out.2.1 hJ16 (by have := (HFL.out.2.1.ins _ hmem).1; omega) (by omega)
      obtain ⟨gi, gic, rfl⟩ := row_slice hgl.ins
      obtain ⟨gj, gjc, rfl⟩ := row_slice hgl.jobs
      obtain ⟨go, goc, rfl⟩ := row_slice hgl.outs
      obtain ⟨w5, hw5⟩ : ∃ x, w4.alloc (.cells #[.slice gi (moreF f i0.name nm).ins.length gic, .slice gj (moreF f i0.name nm).jobs.length gjc, .slice go (moreF f i0.name nm).outs.length goc] 27) = x := ⟨_, rfl⟩
      have hb45 : Below w4.heap.size w4 w5 := by rw [← hw5]; exact below_box _ _
      have hG5 : FBox w5 w4.heap.size (.slice gi (moreF f i0.name nm).ins.length gic) (.slice gj (moreF f i0.name nm).jobs.length gjc) (.slice go (moreF f i0.name nm).outs.length goc) := by rw [← hw5]; exact FBox.new _ _ _ _ _
      have hb35 := bel_then hb4 hb45
      have hF5 := HF3.out.below hb35
      have HOK := Hid.mk (And.intro HFL.out.2.2 (And.intro hok' (And.intro hlk (And.intro hkm hln))))
      have HS5 := Hid.mk (And.intro hF5 (And.intro hG5 (And.intro (HFL.out.1.below hb35) (And.intro (hgl.below hb45) (bel_then HB3.out hb35)))))
      have HGOK := Hid.mk hgok
      have HI0 := Hid.mk (And.intro hi0 hmem)
      have HCF := Hid.mk (check_any f _ _ _ w5 HS5.out.2.2.1 HFL.out.2.1 (cell_below HE.out.2 HS5.out.2.2.2.2))
      have q1 := hF5.1
      have q2 := hF5.2.1
      have q3 := hF5.2.2
      clear hgl hgok hok' hlk hkm hln hmem hi0 hno hb45 hb35 hb4 hG5 hF5 g1 g2 g3
      generalize (moreF f i0.name nm).ins.length = gI at *
      generalize (moreF f i0.name nm).jobs.length = gJ at *
      generalize (moreF f i0.name nm).outs.length = gO at *
      go_wp2_with (first | (go_at_call 7; fail))
      refine HCF.out.mono ?_
      rintro e6 w6 ⟨hb6, ⟨o1, m1, A1, b1, hok1, rfl, -, hM1, hH1, hk1⟩ | ⟨hno, -⟩⟩
      case inr => exact absurd ⟨o, m, HFL.out.2.2⟩ hno
      obtain ⟨rfl, rfl⟩ := HFL.out.2.2.one hok1
      have HS6 := Hid.mk (And.intro (HS5.out.1.below hb6) (And.intro (HS5.out.2.1.below hb6) (And.intro (HS5.out.2.2.1.below hb6) (And.intro (HS5.out.2.2.2.1.below hb6) (bel_then HS5.out.2.2.2.2 hb6)))))
      have HM6 := Hid.mk (And.intro hM1 (And.intro hH1 hk1))
      have HCG := Hid.mk (check_any (moreF f i0.name nm) _ _ _ w6 HS6.out.2.2.2.1 HGOK.out (cell_below HE.out.2 HS6.out.2.2.2.2))
      have q1 := HS6.out.2.1.1
      have q2 := HS6.out.2.1.2.1
      have q3 := HS6.out.2.1.2.2
      clear hb6 hok1 hM1 hH1 hk1
      go_wp2_with (first | (go_at_call 7; fail))
      refine HCG.out.mono ?_
      rintro e7 w7 ⟨hb7, ⟨o2, m2, A2, b2, hok2, rfl, -, hM2, hH2, hk2⟩ | ⟨hno, -⟩⟩
      case inr => exact absurd ⟨_, _, HOK.out.2.1⟩ hno
      obtain ⟨rfl, rfl⟩ := HOK.out.2.1.one hok2
      have HS7 := Hid.mk (And.intro (HS6.out.1.below hb7) (And.intro (HS6.out.2.1.below hb7) (And.intro (HS6.out.2.2.1.below hb7) (And.intro (HS6.out.2.2.2.1.below hb7) (bel_then HS6.out.2.2.2.2 hb7)))))
      have HM7 := Hid.mk (And.intro (HM6.out.1.below hb7) (And.intro (HM6.out.2.1.dn HM6.out.2.2 hb7) HM6.out.2.2))
      have HN7 := Hid.mk (And.intro hM2 (And.intro hH2 hk2))
      have HOF := Hid.mk (order_any f _ _ _ w7 HS7.out.2.2.1 HFL.out.2.1)
      have q1 := HS7.out.1.1
      have q2 := HS7.out.1.2.1
      have q3 := HS7.out.1.2.2
      clear hb7 hok2 hM2 hH2 hk2
      go_wp2_with (first | (go_at_call 13; fail))
      refine HOF.out.mono ?_
      rintro e8 w8 ⟨hb8, ⟨hno, -⟩ | ⟨o3, tv, hord, rfl, hown⟩⟩
      · have := HOK.out.1.2.1; rw [hno] at this; cases this
      have HS8 := Hid.mk (And.intro (HS7.out.1.below hb8) (And.intro (HS7.out.2.1.below hb8) (And.intro (HS7.out.2.2.1.below hb8) (And.intro (HS7.out.2.2.2.1.below hb8) (bel_then HS7.out.2.2.2.2 hb8)))))
      have HM8 := Hid.mk (And.intro (HM7.out.1.below hb8) (And.intro (HM7.out.2.1.dn HM7.out.2.2 hb8) HM7.out.2.2))
      have HN8 := Hid.mk (And.intro (HN7.out.1.below hb8) (And.intro (HN7.out.2.1.dn HN7.out.2.2 hb8) HN7.out.2.2))
      obtain rfl : o = o3 := Option.some.inj (HOK.out.1.2.1.symm.trans hord)
      have HA8 := Hid.mk (IntsV.of hown)
      obtain ⟨aa, ac, rfl⟩ := own_slice hown
      have HOG := Hid.mk (order_any (moreF f i0.name nm) _ _ _ w8 HS8.out.2.2.2.1 HGOK.out)
      have q1 := HS8.out.2.1.1
      have q2 := HS8.out.2.1.2.1
      have q3 := HS8.out.2.1.2.2
      clear hb8 hord hown
      go_wp2_with (first | (go_at_call 13; fail))
      refine HOG.out.mono ?_
      rintro e9 w9 ⟨hb9, ⟨hno, -⟩ | ⟨o4, tv, hord, rfl, hown⟩⟩
      · have := HOK.out.2.1.2.1; rw [hno] at this; cases this
      obtain rfl : 0 :: o.map (· + 1) = o4 := Option.some.inj (HOK.out.2.1.2.1.symm.trans hord)
      have HS9 := Hid.mk (And.intro (HS8.out.1.below hb9) (And.intro (HS8.out.2.1.below hb9) (And.intro (HS8.out.2.2.1.below hb9) (And.intro (HS8.out.2.2.2.1.below hb9) (bel_then HS8.out.2.2.2.2 hb9)))))
      have HM9 := Hid.mk (And.intro (HM8.out.1.below hb9) (And.intro (HM8.out.2.1.dn HM8.out.2.2 hb9) HM8.out.2.2))
      have HN9 := Hid.mk (And.intro (HN8.out.1.below hb9) (And.intro (HN8.out.2.1.dn HN8.out.2.2 hb9) HN8.out.2.2))
      have HA9 := Hid.mk (HA8.out.below hb9)
      have HG9 := Hid.mk (IntsV.of hown)
      obtain ⟨ba_, bc, rfl⟩ := own_slice hown
      clear hb9 hord hown
      obtain ⟨hi0, hmem⟩ := HI0.out
      have hI0 : 0 < f.ins.length := by
        rcases Nat.eq_zero_or_pos f.ins.length with h | h
        · rw [List.getElem?_eq_none (by omega)] at hi0; cases hi0
        · exact h
      obtain ⟨ib, ic', hvi, hil, hib, v0, -, -, hc2, hR⟩ := in_at HS9.out.2.2.1 hI0
      simp only [Value.slice.injEq] at hvi
      obtain ⟨rfl, hIe, rfl⟩ := hvi
      have e0 : f.ins[0] = i0 := Option.some.inj ((List.getElem?_eq_getElem hI0).symm.trans hi0)
      rw [e0] at hR
      obtain ⟨u, hu, hcu, hcs⟩ := HN9.out.2.1.find HN9.out.2.2 HOK.out.2.2.1
      have hv0 : ColV w9 v0 (clsOf i0.cols) := colV_of hR hcs
      have C1 : ∀ d os, Calls Tryz.prog 12 #[u, v0] (Sort.grow (redrawn w9 d) os) fun e w'' => e = .returned (.bool true) ∧ ∃ p : Regrown, w'' = Sort.grow (redrawn w9 p.d) p.os := fun d os => Calls.regrown_of (two_eq (below_regrown w9 d os) hcu hv0 hcs)
      have lk : ∀ d os, (Instr.lookup 30 (.map (some b2)) (.string y) false).run Tryz.prog (Sort.grow (redrawn w9 d) os) = .ok u (Sort.grow (redrawn w9 d) os) := fun d os => by
        have := HLK.out _ _ _ (HN9.out.1.below (below_regrown w9 d os))
        rw [hu] at this
        exact this
      have la1 : A1.length = m.length := by have := congrArg List.length HM9.out.2.1.keys; simpa [keysA, keysM] using this
      have la2 : A2.length = m.length + 1 := by have := congrArg List.length HN9.out.2.1.keys; rw [← HOK.out.2.2.2.2]; simpa [keysA, keysM] using this
      have hLm := plan_len HOK.out.1 HFL.out.2.1
      have l1 : ∀ ty d os, (Builtin.len_ #[30] ty #[.map (some b1)]).run Tryz.prog (Sort.grow (redrawn w9 d) os) = .ok (.int .i64 (m.length : Nat)) (Sort.grow (redrawn w9 d) os) := fun ty d os => by rw [← la1]; exact (HM9.out.1.below (below_regrown w9 d os)).len ty
      have l2 : ∀ ty d os, (Builtin.len_ #[30] ty #[.map (some b2)]).run Tryz.prog (Sort.grow (redrawn w9 d) os) = .ok (.int .i64 ((m.length + 1 : Nat) : Int)) (Sort.grow (redrawn w9 d) os) := fun ty d os => by rw [← la2]; exact (HN9.out.1.below (below_regrown w9 d os)).len ty
      have hI1 : (0 : Int) < (I : Int) := by omega
      have hI2 : ¬ I = 0 := by omega
      have q1 : ∀ d os, (Sort.grow (redrawn w9 d) os).cell? ⟨w2.heap.size, 0, none⟩ = some (.slice (some ⟨ib, 0, none⟩) I ic) := fun d os => cell_regrown HS9.out.1.1 d os
      have q2 : ∀ d os, (Sort.grow (redrawn w9 d) os).cell? ⟨ib, 2, none⟩ = some v0 := fun d os => cell_regrown hc2 d os
      have HNO := Hid.mk (ordF_good HOK.out.1.2.1)
      have HIE := Hid.mk (And.intro hIe hI0)
      have HLA := Hid.mk la1
      generalize m.length = L at *
      have k1 : wrap64 ((L : Int) + 1) = ((L + 1 : Nat) : Int) := by unfold wrap64; omega
      clear hi0 hmem hI0 hIe hil e0 hR hu hcu hcs hv0 la1 la2 hc2 hLm
      go_wp2
      refine wp_region_quiet_below (by kernel_rfl) (by kernel_rfl) ?_
      repeat (any_goals (first | go_big_quiet_step (exact C1 _ _) | quiet_step (exact C1 _ _)))
      refine wpQuiet_nil ?_
      intro _ hw'
      obtain ⟨⟨dq, osq⟩, hw''⟩ := hw'
      subst hw''
      have hb10 := below_regrown w9 dq osq
      clear C1 lk l1 l2 q1 q2 k1
      generalize Sort.grow (redrawn w9 dq) osq = w10 at *
      have hM10 := HM9.out.1.below hb10
      obtain ⟨D, hown, hsee, hsiz⟩ := hM10.is
      have HSEE := Hid.mk hsee
      have HB10 := Hid.mk hb10
      have hA10 := HA9.out.below hb10
      have hG10 := HG9.out.below hb10
      have HA10 := Hid.mk hA10
      have HG10 := Hid.mk hG10
      have HW10 := Hid.mk (bel_then HS9.out.2.2.2.2 hb10)
      have hlen1 : (0 :: List.map (fun x => x + 1) o).length = o.length + 1 := by simp
      rw [hlen1] at HG10
      clear hb10 hM10 hsee hsiz hA10 hG10 hlen1 HG9 HA9 HA8 HOG HM3 HCF HCG HOF HS5 HS6 HS7 HS8 HM6 HM7 HM8 HN7 HN8 HF3 HLK HMO HRI HPL HR1
      generalize hOn : o.length = On at *
      generalize hMM : On + 1 = M at *
      have HMM := Hid.mk hMM
      clear hMM
      go_wp2_with (first | (at_range; refine wpList_range_own _ rfl _ 30 rfl 9 45 keyedS Tryz.underlying30 Dk.Rv b1 A1.length D rfl hown ?_; intro w11 hrg11 hg11 hs11))
      have HRG := Hid.mk hrg11
      have HB11 := Hid.mk (show Below w10.heap.size w10 w11 from ⟨hg11.os, hg11.tape, hg11.output, hg11.size, fun k hk => hg11.block k hk (by simp)⟩)
      clear hown hg11 hs11 hrg11
      go_frame
      go_loopw [] (fun wr => ∃ left cnt, wr.ranges Tryz.prog 9 Dk.Rv b1 w10.heap.size A1.length D left cnt ∧ Below w10.heap.size w10 wr) (fun wr => wr.rangeLeft b1 w10.heap.size)
      case atStart => exact ⟨_, _, HRG.out, HB11.out⟩
      case round =>
        obtain ⟨left, cnt, hrg, hbr⟩ := hrel
        have HBR := Hid.mk hbr
        have RG := Hid.mk hrg
        clear HRG HB11 hbr
        go_wp2_with (first | (at_next; refine wpList_next_ranges _ rfl _ rfl 9 keyedS Dk.Rv Value.string (fun v : Value => v) (fun key kl h => by obtain ⟨x, rfl, _⟩ := str_inv h; exact ⟨x, rfl⟩) (fun v y _ => ⟨v, rfl⟩) b1 w10.heap.size A1.length D left cnt rfl hrg ?_ ?_) | go_in)
        · as_aux_lemma =>
          intro hc0 hl0
          rcases HG10.out with ⟨-, e⟩ | ⟨gb, g0, gc, e, hcap, hgb, hcells⟩
          · cases e
          simp only [Value.slice.injEq] at e
          obtain ⟨rfl, hgl, rfl⟩ := e
          have hlt0 := HBR.out.size
          have cg : ∀ V, Below w10.heap.size w10 V → ∀ (j : Nat) (h : j < (0 :: List.map (fun x => x + 1) o).length), V.cell? ⟨gb, g0 + j, none⟩ = some (.int .i64 ((0 :: List.map (fun x => x + 1) o)[j] : Nat)) := fun V hV j h => (hV.cell (p := ⟨gb, g0 + j, none⟩) hgb).trans (hcells j h)
          have c0 : wr.cell? ⟨gb, g0, none⟩ = some (.int .i64 0) := by have := cg wr HBR.out 0 (by simp); simpa using this
          have HCG := Hid.mk cg
          have HON := Hid.mk hOn
          obtain ⟨hon, hoj⟩ := good_16 HNO.out hJ16 hOn
          have HOJ := Hid.mk hoj
          have k1 := wrap_succ (n := On) (Nat.le_trans hon (by decide)) HMM.out
          have k2 := pos_succ HMM.out
          have k3 := cast_succ HMM.out
          clear hc0 hl0 hgl hcap hcells cg hOn hrg hlt0 hoj
          go_wp2
          obtain ⟨wb, hwb⟩ : ∃ x, x = wr := ⟨_, rfl⟩
          subst hwb
          clear c0 k1 k2 k3
          go_loopw [18] (fun i wr => ∃ q : Nat, q ≤ On ∧ i = .int .i64 q ∧ Below w10.heap.size w10 wr) (fun i _ => On - (intOf i).toNat)
          case atStart => exact ⟨0, Nat.zero_le _, rfl, HBR.out⟩
          case round =>
            obtain ⟨q, hq, rfl, hnx⟩ := hrel
            have HNX := Hid.mk hnx
            by_cases hlt : q < On
            · have hq3 : q < o.length := by rw [HON.out]; exact hlt
              rcases HA10.out with ⟨-, e⟩ | ⟨ab, a0, ac', e, hac, hab, hca⟩
              · rw [e] at hq3; exact absurd hq3 (by simp)
              simp only [Value.slice.injEq] at e
              obtain ⟨rfl, -, rfl⟩ := e
              obtain ⟨z, hz⟩ : ∃ z, o[q] = z := ⟨_, rfl⟩
              have hz16 : z ≤ 16 := by rw [← hz]; exact HOJ.out q hq3
              have cA : wr.cell? ⟨ab, a0 + q, none⟩ = some (.int .i64 (z : Nat)) := by rw [← hz]; exact (hnx.cell (p := ⟨ab, a0 + q, none⟩) hab).trans (hca q hq3)
              obtain ⟨Q, hQ⟩ : ∃ Q, q + 1 = Q := ⟨_, rfl⟩
              obtain ⟨Z, hZ⟩ : ∃ Z, z + 1 = Z := ⟨_, rfl⟩
              have cG : wr.cell? ⟨gb, g0 + Q, none⟩ = some (.int .i64 (Z : Nat)) := by
                subst hQ hZ
                have := HCG.out wr hnx (q + 1) (by simp; exact hq3)
                simpa [hz] using this
              obtain ⟨s1, s2, s3, s4, s5, s7, s8⟩ := round_ar hlt hon hQ HMM.out
              have s6 := wrap_succ (n := z) (Nat.le_trans hz16 (by decide)) hZ
              have HQ := Hid.mk (And.intro hQ s8)
              have s9 := cast_succ hQ
              have s10 := cast_succ hZ
              have s11 := wrap_small (k := Z) (by rw [← hZ]; exact Nat.le_trans (Nat.succ_le_succ hz16) (by decide))
              have s12 := wrap_small (k := Q) (Nat.le_trans s8 (Nat.le_trans hon (by decide)))
              clear hz hca hac hq3 hnx hq hz16 hQ hZ s8
              go_wp2
              go_quiet (fail)
              go_wp2
              rw [s12]
              go_roundw
              case rel => exact ⟨Q, HQ.out.2, rfl, below_drewN HNX.out _⟩
              case measure => exact meas_ar hlt HQ.out.1
            · obtain rfl : q = On := Nat.le_antisymm hq (Nat.le_of_not_lt hlt)
              have s1 : ¬ (q : Int) < (q : Int) := Int.lt_irrefl _
              have BE := Hid.mk (bel_then HW10.out hnx)
              clear hnx
              go_wp2
              go_ret
              exact ⟨rfl, BE.out⟩
        · as_aux_lemma =>
          intro kx v kl ya yb w12 cnt12 hkey hlk hv hat hrg12 hlt12 hg12 hs12 hen
          obtain ⟨kx', ek, hkx, hkl⟩ := str_inv hkey
          injection ek with ek
          subst ek hkl
          have hy : ya = .held v := (congrArg Prod.fst (Option.some.inj hv)).symm
          subst hy
          have hl1 := sees_at HSEE.out hat
          have hb12 : Below w10.heap.size w10 w12 := ⟨hg12.os.trans HBR.out.os, hg12.tape.trans HBR.out.tape, hg12.output.trans HBR.out.output, Nat.le_trans HBR.out.size hg12.size, fun k hk => (hg12.block k (Nat.lt_of_lt_of_le hk HBR.out.size) (by intro q; injection q with q; omega)).trans (HBR.out.block k hk)⟩
          have hb912 := bel_then HB10.out hb12
          obtain ⟨v', cs, hv1, hm1, hcv, hcm⟩ := HM9.out.2.1.look (n := kx.data.toList) (by rw [← HM9.out.2.1.keys]; exact (lookA_some hl1).1)
          obtain rfl : v = v' := Option.some.inj (hl1.symm.trans hv1)
          have hm2 : lookM m' kx.data.toList = some cs := by
            rw [HOK.out.2.2.2.1 _ (by rw [← HM9.out.2.1.keys]; exact (lookA_some hl1).1)]
            exact hm1
          obtain ⟨u2, hu2, hcu2, hcs⟩ := HN9.out.2.1.find HN9.out.2.2 hm2
          have lk := (HN9.out.1.below hb912).lookB kx hkx
          rw [hu2] at lk
          have HEQ := Hid.mk (two_eq hb912 hcu2 hcv hcs)
          have R12 := Hid.mk hrg12
          have HLT := Hid.mk hlt12
          have HB12 := Hid.mk hb12
          clear hrg hkey hlk hv hat hrg12 hlt12 hg12 hs12 hl1 hb12 hb912 hv1 hm1 hcv hcm hm2 hu2 hcu2 hcs hkx
          go_wp2_with (go_at_call 12; refine HEQ.out.mono ?_; rintro e13 w13 ⟨rfl, b13⟩; have HB13 := Hid.mk (bel_then HB12.out b13); have R13 := Hid.mk (R12.out.kept (row := none) ⟨b13.os, b13.tape, b13.output, b13.size, fun k hk _ => b13.block k hk⟩ (by simp) (by simp)); clear b13)
          go_roundw
          case rel => exact ⟨_, _, R13.out, HB13.out⟩
          case measure => rw [R13.out.left_eq, RG.out.left_eq]; exact HLT.out
    · have HB4 := Hid.mk (bel_then HB3.out hb4)
      clear hb4
      go_wp2
      go_ret
      exact ⟨rfl, bel_then HB4.out (below_box _ _)⟩
  · have HB2 := Hid.mk (bel_then HB1.out hb2)
    clear hb2
    go_wp2
    go_ret
    exact ⟨rfl, bel_then HB2.out (below_box _ _)⟩
end Go.Proofs.YtfifbnopgpffkaaGreatDoor.Pl
