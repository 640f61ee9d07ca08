import Derived.Test.YtfifbnopgpffkaaGreatDoorTelH
set_option linter.unusedSimpArgs false
set_option linter.unusedVariables false
namespace Go.Proofs.YtfifbnopgpffkaaGreatDoor.Pl
open Go.RowKit Go.Maps
open Fw (By FJob Flw ba strV encL zeroJ)

/-- The columns that are known yet, in memory. -/
structure ColS (w1 wr : World) (b : Nat) (A : AM) (m : CM) : Prop where
  low : Below w1.heap.size w1 wr
  map : MapC wr b A
  mem : Holds2 wr A m
  ok : ∀ c ∈ m, CsOK c.2
theorem ColS.below {w1 wr w' : World} {b : Nat} {A : AM} {m : CM} (h : ColS w1 wr b A m) (hb : Below wr.heap.size wr w') : ColS w1 w' b A m :=
  ⟨bel_then h.low hb, h.map.below hb, h.mem.imp h.ok (fun u cs _ hv => hv.below hb), h.ok⟩
theorem ColS.put {w1 wr w' : World} {b : Nat} {A : AM} {m : CM} {n : By} {u : Value} {cs : Cs} (h : ColS w1 wr b A m) (h1 : w1.heap.size ≤ b) (hu : ColV wr u cs) (hc : CsOK cs) (hm : MapC w' b (A ++ [(n, u)])) (hg : wr.grownBy w' (some b)) : ColS w1 w' b (A ++ [(n, u)]) (m ++ [(n, cs)]) :=
  ⟨h.low.grown hg h.low.size (fun q hq => by injection hq with hq; omega), hm, (h.mem.imp h.ok (fun u cs hk hv => hv.put hk h.map.obj hg)).snoc (hu.put hc h.map.obj hg), fun c hc2 => by
    rcases List.mem_append.1 hc2 with q | q
    · exact h.ok c q
    · rw [List.mem_singleton.1 q]; exact hc⟩
theorem ColS.len {w1 wr : World} {b : Nat} {A : AM} {m : CM} (h : ColS w1 wr b A m) : A.length = m.length := by
  have := congrArg List.length h.mem.keys
  simpa [keysA, keysM] using this
theorem rightCols_ok {l : List (By × Int)} (h : rightColsB (clsOf l) = true) (hs : ∀ x ∈ l, x.1.length ≤ 900) : CsOK (clsOf l) := by
  obtain ⟨h1, h6⟩ := rightCols_len h
  refine ⟨h1, h6, fun x hx => ?_⟩
  obtain ⟨y, hy, rfl⟩ := List.mem_map.1 hx
  exact Nat.le_trans (hs y hy) (by decide)
theorem colV_of {w : World} {v : Value} {l : List (By × Int)} (h : Fw.ColsR w v l) (hc : CsOK (clsOf l)) : ColV w v (clsOf l) := by
  rcases h with ⟨rfl, rfl⟩ | ⟨b, o, c, rfl, h2, h3, h4⟩
  · exact absurd hc.1 (by decide)
  · refine ⟨b, o, c, by simp [clsOf], by simpa [clsOf] using h2, h3, fun j hj => ?_⟩
    have hj2 : j < l.length := by simpa [clsOf] using hj
    simpa [clsOf] using h4 j hj2
/-- All names, as they come. -/
def nmO (f : Flw) (o : List Nat) : List By := f.ins.map (·.name) ++ (jobsO f o).flatMap (·.outs)
theorem nmO_nodup {f : Flw} {o : List Nat} (hf : Fine f) (ho : Good f o) : (nmO f o).Nodup := (show (nmO f o).Perm (madeL f) from List.Perm.append_left _ (ho.perm_jobs.flatMap_right _)).nodup_iff.2 hf.nodup
theorem nmO_len {f : Flw} {o : List Nat} (hf : Fw.FlwOK f) (ho : Good f o) : (nmO f o).length ≤ 16016 := by
  rw [(show (nmO f o).Perm (madeL f) from List.Perm.append_left _ (ho.perm_jobs.flatMap_right _)).length_eq]
  exact made_len hf
theorem fresh_pre {l r : List By} {x : By} {m : List By} (hn : l.Nodup) (h : l = m ++ x :: r) : x ∉ m := fun hx => dup_pre h hx hn
theorem pre_insO {f : Flw} {o : List Nat} {k : Nat} (h : k < f.ins.length) : ∃ r, nmO f o = (f.ins.take k).map (·.name) ++ f.ins[k].name :: r := by
  refine ⟨(f.ins.drop (k + 1)).map (·.name) ++ (jobsO f o).flatMap (·.outs), ?_⟩
  unfold nmO
  have e : f.ins = f.ins.take k ++ f.ins[k] :: f.ins.drop (k + 1) := by rw [← List.drop_eq_getElem_cons h, List.take_append_drop]
  conv => lhs; rw [e]
  simp only [List.map_append, List.map_cons, List.append_assoc, List.cons_append]
theorem jobsO_at {f : Flw} {o : List Nat} {q : Nat} (h : q < o.length) (hj : o[q] < f.jobs.length) : jobsO f o = jobsO f (o.take q) ++ f.jobs[o[q]] :: jobsO f (o.drop (q + 1)) := by
  have e : o = o.take q ++ o[q] :: o.drop (q + 1) := by rw [← List.drop_eq_getElem_cons h, List.take_append_drop]
  conv => lhs; rw [e]
  unfold jobsO
  rw [List.filterMap_append, List.filterMap_cons, List.getElem?_eq_getElem hj]
theorem jobsO_take {f : Flw} {o : List Nat} {q : Nat} (h : q < o.length) (hj : o[q] < f.jobs.length) : jobsO f (o.take (q + 1)) = jobsO f (o.take q) ++ [f.jobs[o[q]]] := by
  unfold jobsO
  rw [List.take_succ_eq_append_getElem h, List.filterMap_append]
  simp [List.getElem?_eq_getElem hj]
theorem pre_outO {f : Flw} {o : List Nat} {q r : Nat} (h : q < o.length) (hj : o[q] < f.jobs.length) (hr : r < f.jobs[o[q]].outs.length) : ∃ s, nmO f o = (f.ins.map (·.name) ++ (jobsO f (o.take q)).flatMap (·.outs) ++ f.jobs[o[q]].outs.take r) ++ f.jobs[o[q]].outs[r] :: s := by
  refine ⟨f.jobs[o[q]].outs.drop (r + 1) ++ (jobsO f (o.drop (q + 1))).flatMap (·.outs), ?_⟩
  unfold nmO
  rw [jobsO_at h hj, List.flatMap_append, List.flatMap_cons]
  have e2 : f.jobs[o[q]].outs = f.jobs[o[q]].outs.take r ++ f.jobs[o[q]].outs[r] :: f.jobs[o[q]].outs.drop (r + 1) := by rw [← List.drop_eq_getElem_cons hr, List.take_append_drop]
  conv => lhs; rw [e2]
  simp only [List.append_assoc, List.cons_append]
theorem runM_app (E : FJob → List Cs → Int) (C : FJob → List Cs → Cs) : ∀ (p1 p2 : List FJob) (m : CM), runM E C (p1 ++ p2) m = (runM E C p1 m).bind (runM E C p2)
  | [], p2, m => rfl
  | a :: p1, p2, m => by
    rw [List.cons_append]
    unfold runM
    by_cases he : E a (inC m a) = 0
    · rw [if_pos he, if_pos he]; exact runM_app E C p1 p2 _
    · rw [if_neg he, if_neg he]; rfl
/-- What is told of the next job. -/
structure NextJ (f : Flw) (o : List Nat) (q : Nat) (m : CM) (j : FJob) : Prop where
  read : ∀ n ∈ j.ins, n ∈ keysM m
  fresh : ∀ r (hr : r < j.outs.length), j.outs[r] ∉ keysM m ++ j.outs.take r
  step : colsE j (inC m j) = 0 → runM colsE colsC (jobsO f (o.take (q + 1))) (insM f) = some (m ++ j.outs.map fun n => (n, colsC j (inC m j)))
  fail : colsE j (inC m j) ≠ 0 → colsO colsE colsC f o = none
  len : m.length + j.outs.length ≤ 16016
theorem nextJ {f : Flw} {o : List Nat} {q : Nat} {m : CM} (hF : Fine f) (hf : Fw.FlwOK f) (hg : Good f o) (hq : q < o.length) (hj : o[q] < f.jobs.length) (hrun : runM colsE colsC (jobsO f (o.take q)) (insM f) = some m) : NextJ f o q m f.jobs[o[q]] := by
  obtain ⟨r, hr, hk⟩ := runM_keys hrun
  have hkm : keysM m = f.ins.map (·.name) ++ (jobsO f (o.take q)).flatMap (·.outs) := by
    rw [hr, keysM, List.map_append, ← keysM, ← keysM, hk, keys_ins]
  obtain ⟨-, ht⟩ := hg.jobs
  rw [jobsO_at hq hj] at ht
  refine ⟨fun n hn => ?_, fun r hr => ?_, fun h0 => ?_, fun h0 => ?_, ?_⟩
  · rw [hkm, List.mem_append]
    exact (ht _ _ _ rfl n hn).imp id (fun ⟨j', a, b⟩ => List.mem_flatMap.2 ⟨j', a, b⟩)
  · obtain ⟨s, hs⟩ := pre_outO hq hj hr
    rw [hkm]
    exact fresh_pre (nmO_nodup hF hg) hs
  · rw [jobsO_take hq hj, runM_snoc, hrun, Option.bind_some, if_pos h0]
  · unfold colsO
    rw [jobsO_at hq hj, runM_app, hrun, Option.bind_some]
    unfold runM
    rw [if_neg h0]
  · have h1 := nmO_len hf hg
    unfold nmO at h1
    rw [jobsO_at hq hj, List.flatMap_append, List.flatMap_cons, ← List.append_assoc, ← hkm, List.length_append, List.length_append] at h1
    have : (keysM m).length = m.length := by simp [keysM]
    omega
/-- What lies at these names. -/
def insU (A : AM) (l : List By) : List Value := l.map fun n => (lookA A n).getD (.slice none 0 0)
theorem heads_of {wz : World} {B ni : Nat} {iv : Value} {A : AM} {m : CM} {l : List By} (hrow : wz.ownsRow B 45 1 iv ni (insU A l)) (hl : l.length = ni) (hpos : 0 < ni) (hH : Holds2 wz A m) (hread : ∀ n ∈ l, n ∈ keysM m) : ∃ g gc, iv = .slice (some ⟨g, 0, none⟩) ni gc ∧ HeadsV wz g 0 (l.map fun n => (lookM m n).getD []) := by
  have h0 := hrow
  obtain ⟨-, ⟨-, hn⟩ | ⟨g, cap, cur, rfl, -, -, -, -, -, -⟩⟩ := hrow
  · omega
  · refine ⟨g, cap, rfl, (h0.lt g rfl).2, fun i hi => ?_⟩
    have hi2 : i < l.length := by simpa using hi
    obtain ⟨u, cs, h1, h2, h3, -⟩ := hH.look (hread l[i] (List.getElem_mem hi2))
    refine ⟨u, ?_, ?_⟩
    · rw [Nat.zero_add, h0.cellAt i (by omega), insU, List.getElem?_map, List.getElem?_eq_getElem hi2, Option.map_some, h1]
      rfl
    · rw [List.getElem_map, h2]
      exact h3
theorem inC_ok {wz : World} {A : AM} {m : CM} {j : FJob} (hH : Holds2 wz A m) (hok : ∀ c ∈ m, CsOK c.2) (hread : ∀ n ∈ j.ins, n ∈ keysM m) : ∀ c ∈ inC m j, CsOK c := by
  intro c hc
  obtain ⟨n, hn, rfl⟩ := List.mem_map.1 hc
  obtain ⟨u, cs, -, h2, -, h4⟩ := hH.look (hread n hn)
  rw [h2]
  exact hok _ h4
theorem row_ne_map {w : World} {B b n z : Nat} {e : TypeId} {v : Value} {xs : List Value} (h : w.ownsRow B e z v n xs) (hb : ∃ es c, w.heap[b]? = some (.map es c)) : v.ownBlock ≠ some b := by
  intro he
  obtain ⟨-, ⟨rfl, -⟩ | ⟨g, cap, cur, rfl, -, hg, -⟩⟩ := h
  · cases he
  · simp only [Value.ownBlock, Option.some.injEq] at he
    subst he
    obtain ⟨es, c, hm⟩ := hb
    rw [hg] at hm
    cases hm
/-- What columns comes to. -/
def ColsRes (f : Flw) (o : List Nat) (w : World) (e : Ending) (w' : World) : Prop := Below w.heap.size w w' ∧
  ((colsO colsE colsC f o = none ∧ ∃ ev n, e = .returned (.tuple #[.map none, ev]) ∧ n ≠ 0 ∧ AtV w' ev n) ∨
   (∃ m A b, colsO colsE colsC f o = some m ∧ e = .returned (.tuple #[.map (some b), .nilIface]) ∧ w.heap.size ≤ b ∧ MapC w' b A ∧ Holds2 w' A m ∧ ∀ c ∈ m, CsOK c.2))
set_option maxRecDepth 100000 in
set_option maxHeartbeats 3200000 in
theorem columns_any (f : Flw) (o : List Nat) (vi vj vo ov : Value) (w : World) (h : Fw.FlowRd w f vi vj vo) (hf : Fw.FlwOK f) (hF : Fine f) (hg : Good f o) (ho : IntsV w ov o)
    (hgl : w.cell? ⟨0, 0, none⟩ = some (.iface 147 (.agg #[.pointer (some ⟨10, 32, none⟩)]))) :
    Calls Tryz.prog 21 #[.agg #[vi, vj, vo], ov] w fun e w' => ColsRes f o w e w' := by
  obtain ⟨i0, hi, hz0, hz1, hz2⟩ := info_parts Tryz.infoCols
  obtain ⟨ia, ic, rfl⟩ := row_slice h.ins
  obtain ⟨ja, jc, rfl⟩ := row_slice h.jobs
  obtain ⟨I, hI⟩ : ∃ I, f.ins.length = I := ⟨_, rfl⟩
  obtain ⟨J, hJ⟩ : ∃ J, f.jobs.length = J := ⟨_, rfl⟩
  have hI16 : I ≤ 16 := by rw [← hI]; exact hf.il
  have hJ16 : J ≤ 16 := by rw [← hJ]; exact hf.jl
  have hol : o.length = J := by rw [← hJ]; exact hg.len
  rw [hI, hJ] at h ⊢
  obtain ⟨w1, hw1⟩ : ∃ x, w.alloc (.cells #[.slice ia I ic, .slice ja J jc, vo] 27) = x := ⟨_, rfl⟩
  have hB1 : Below w.heap.size w w1 := by rw [← hw1]; exact below_box _ _
  have hF1 : FBox w1 w.heap.size (.slice ia I ic) (.slice ja J jc) vo := by rw [← hw1]; exact FBox.new _ _ _ _ _
  obtain ⟨w2, hw2⟩ : ∃ x, w1.alloc (.map #[] 0) = x := ⟨_, rfl⟩
  have hS2 : ColS w1 w2 w1.heap.size [] [] := by
    rw [← hw2]
    exact ⟨below_box _ _, MapC.made w1, trivial, by simp⟩
  have HB1 := Hid.mk hB1
  have HF1 := Hid.mk hF1
  have HH := Hid.mk (And.intro (h.below hB1) hf)
  have HFG := Hid.mk (And.intro hF hg)
  have HO := Hid.mk (ho.below hB1)
  have HOL := Hid.mk hol
  have HI := Hid.mk hI
  have HJ := Hid.mk hJ
  have HS2 := Hid.mk hS2
  have HGL : Hid (∀ V, Below w1.heap.size w1 V → V.cell? ⟨0, 0, none⟩ = some (.iface 147 (.agg #[.pointer (some ⟨10, 32, none⟩)]))) := Hid.mk fun V hV => cell_below (cell_below hgl hB1) hV
  have g1 := (hF1.below hS2.low).1
  have HAT : Hid (∀ (n : Int) (pl : Int) V, Calls Tryz.prog 24 #[.int .i64 n, .int .i64 pl] V fun e w' => ∃ p, e = .returned (.iface 82 (.pointer (some ⟨p, 0, none⟩))) ∧ AtV w' (.iface 82 (.pointer (some ⟨p, 0, none⟩))) n ∧ Below V.heap.size V w') := Hid.mk fun n pl V => at_any n pl V
  obtain ⟨va, vc, rfl⟩ := ints_slice ho
  rw [hol] at HO ⊢
  clear h hf hI hJ hB1 hF1 hF hg ho hgl hS2 hol
  have hmk : ∀ V : World, (Instr.makeMap 30 none).run Tryz.prog V = .ok (.map (some V.heap.size)) (V.alloc (.map #[] 0)) := fun V => by kernel_rfl
  go_enter Tryz.func21, Tryz.ntmps21
  go_wp2
  go_loopw [23] (fun i wr => ∃ k : Nat, k ≤ I ∧ i = .int .i64 k ∧ ∃ A, ColS w1 wr w1.heap.size A ((insM f).take k)) (fun i _ => I - (intOf i).toNat)
  case atStart => exact ⟨0, Nat.zero_le _, rfl, [], HS2.out⟩
  case round =>
    obtain ⟨k, hk, rfl, A, hS⟩ := hrel
    have HS := Hid.mk hS
    by_cases hlt : k < I
    · have hk2 : k < f.ins.length := by rw [HI.out]; exact hlt
      obtain ⟨b, c, e0, hcap, hb, v, d0, d1, d2, hcr⟩ := in_at (HH.out.1.below hS.low) hk2
      simp only [Value.slice.injEq] at e0
      obtain ⟨rfl, -, rfl⟩ := e0
      have hin := HH.out.2.ins _ (List.getElem_mem hk2)
      have hcok := rightCols_ok (HFG.out.1.cols _ (List.getElem_mem hk2)) (fun x hx => (hin.2.2 x hx).1)
      obtain ⟨vb, vo', vcap, hve, hvc, hvb, hva⟩ := colV_of hcr hcok
      subst hve
      have HTK : Hid ((insM f).take (k + 1) = (insM f).take k ++ [(f.ins[k].name, clsOf f.ins[k].cols)]) := Hid.mk (by
        rw [List.take_succ_eq_append_getElem (by simpa [insM] using hk2)]; simp [insM])
      have HFR : Hid (f.ins[k].name ∉ keysA A) := Hid.mk (by
        rw [hS.mem.keys]
        obtain ⟨r, hr⟩ := pre_insO (o := o) hk2
        have := fresh_pre (nmO_nodup HFG.out.1 HFG.out.2) hr
        rwa [show keysM ((insM f).take k) = (f.ins.take k).map (·.name) by simp [keysM, insM, List.map_take, Function.comp_def]])
      have hal : A.length ≤ 16 := by rw [hS.len]; simp [insM]; omega
      have HNL : Hid (f.ins[k].name.length ≤ 1000) := Hid.mk (by have := hin.1; omega)
      have HCOK := Hid.mk hcok
      obtain ⟨w3, hw3⟩ : ∃ x, wr.alloc (.cells #[.int .i64 (f.ins[k].at_ : Nat), .string (ba f.ins[k].name), .slice (some ⟨vb, vo', none⟩) (clsOf f.ins[k].cols).length vcap] 57) = x := ⟨_, rfl⟩
      have hb3 : Below wr.heap.size wr w3 := by rw [← hw3]; exact below_box _ _
      have HCL : Hid (∀ V, Below w3.heap.size w3 V → Calls Tryz.prog 44 #[.slice (some ⟨vb, vo', none⟩) (clsOf f.ins[k].cols).length vcap] V fun e w' => ∃ v, e = .returned v ∧ w'.ownsRow V.heap.size 48 2 v (clsOf f.ins[k].cols).length (colCells (clsOf f.ins[k].cols)) ∧ Below V.heap.size V w') := Hid.mk fun V hV => by
        have hbV := bel_then hb3 hV
        exact cloneCol_in vb vo' _ vcap (clsOf f.ins[k].cols) V rfl (by have := hcok.2.1; omega) (by have := hbV.size; omega) (hva.below hbV hvb)
      have q1 : w3.drew.cell? ⟨wr.heap.size, 1, none⟩ = some (.string (ba f.ins[k].name)) := by rw [← hw3]; exact World.cell?_alloc_at _ _ _ _ rfl
      have q2 : w3.drew.cell? ⟨wr.heap.size, 2, none⟩ = some (.slice (some ⟨vb, vo', none⟩) (clsOf f.ins[k].cols).length vcap) := by rw [← hw3]; exact World.cell?_alloc_at _ _ _ _ rfl
      have hlK : wr.heap.size < w3.drew.heap.size := by show wr.heap.size < w3.heap.size; rw [← hw3]; simp
      have HS3 := Hid.mk ((HS.out.below hb3).below ((Below.refl _ w3).drew))
      have HQ1 := Hid.mk q1
      obtain ⟨nm, hnm⟩ : ∃ nm, f.ins[k].name = nm := ⟨_, rfl⟩
      obtain ⟨cs, hcs⟩ : ∃ cs, clsOf f.ins[k].cols = cs := ⟨_, rfl⟩
      rw [hcs] at HTK HCOK HCL q2 hw3 d2
      rw [hnm] at HTK HFR HNL q1 HQ1 d1 hw3
      generalize f.ins[k].at_ = pl at *
      obtain ⟨bx, hbx⟩ : ∃ bx, ba nm = bx := ⟨_, rfl⟩
      rw [hbx] at q1 HQ1 d1 hw3
      have HBX := Hid.mk hbx
      clear hcr hin hcok hva hS hb3 hnm hcs hbx
      generalize hcn : cs.length = cn at *
      have HCN := Hid.mk hcn
      clear hcn
      go_wp2_with fail
      go_region_law (first | (go_simp; go_at_call 44; refine (HCL.out _ ((Below.refl _ w3).drew)).mono ?_; rintro e4 w4 ⟨v4, rfl, ho4, hb4⟩; have HO4 := Hid.mk ho4; have hq4 := cell_below HQ1.out hb4; have HS4 := Hid.mk (HS3.out.below hb4); obtain ⟨w5, hr5, hm5, hg5, hs5⟩ := HS4.out.map.put HFR.out (by omega) HNL.out v4; rw [HBX.out] at hr5; have HM5 := Hid.mk (And.intro hm5 hg5); obtain ⟨a4, c4, rfl⟩ := own_slice ho4; clear ho4 hb4 hm5 hg5))
      all_goals have HS5 := Hid.mk (HS4.out.put (Nat.le_refl _) (ColV.of (by have := HO4.out; rw [← HCN.out] at this; exact this) HCOK.out) HCOK.out (by have := HM5.out.1; rw [← HCN.out] at this; exact this) (HM5.out.2))
      all_goals rw [← HTK.out] at HS5
      all_goals clear HM5 HO4 HS4
      all_goals go_wp2
      all_goals go_roundw
      all_goals first
        | exact ⟨k + 1, by omega, by go_num, _, HS5.out⟩
        | (simp [intOf]; omega)
    · obtain rfl : k = I := by omega
      have hA : (insM f).take k = insM f := List.take_of_length_le (by simp [insM]; have := HI.out; omega)
      rw [hA] at HS hS
      have g2 := (HF1.out.below hS.low).2.1
      have HR0 : Hid (runM colsE colsC (jobsO f (o.take 0)) (insM f) = some (insM f)) := Hid.mk (by simp [jobsO, runM])
      clear hS hA
      go_wp2
      go_loopw [36] (fun i wr => ∃ q : Nat, q ≤ J ∧ i = .int .i64 q ∧ ∃ A m, ColS w1 wr w1.heap.size A m ∧ runM colsE colsC (jobsO f (o.take q)) (insM f) = some m) (fun i _ => J - (intOf i).toNat)
      case atStart => exact ⟨0, Nat.zero_le _, rfl, A, _, HS.out, HR0.out⟩
      case round =>
        clear HS HR0 g2
        obtain ⟨q, hq, rfl, A, m, hS, hrun⟩ := hrel
        obtain ⟨wb, hwb⟩ : ∃ x, x = wr := ⟨_, rfl⟩
        rw [← hwb] at hS ⊢
        clear hwb
        have HS := Hid.mk hS
        have HRUN := Hid.mk hrun
        by_cases hlt2 : q < J
        · have hq2 : q < o.length := by rw [HOL.out]; exact hlt2
          have hjn : o[q] < f.jobs.length := (HFG.out.2.mem _).1 (List.getElem_mem hq2)
          have HNJ := Hid.mk (nextJ HFG.out.1 HH.out.2 HFG.out.2 hq2 hjn hrun)
          rcases HO.out with ⟨-, e0⟩ | ⟨ob, oo, oc, e0, hocap, hob, hocell⟩
          · rw [e0] at hq2; exact absurd hq2 (by simp)
          simp only [Value.slice.injEq] at e0
          obtain ⟨rfl, -, rfl⟩ := e0
          have dO := (hS.low.cell (p := ⟨ob, oo + q, none⟩) hob).trans (hocell q hq2)
          obtain ⟨b, c, e0, hcap, hb, ao, ai, ac, hra0, hto, hti, htc⟩ := job_at HH.out.1 hjn
          simp only [Value.slice.injEq] at e0
          obtain ⟨rfl, -, rfl⟩ := e0
          have hra : wb.rangeAt b (o[q] * 15) (Fw.jobV f.jobs[o[q]] ao ai ac) := fun j u hj => (hS.low.cell (p := ⟨b, o[q] * 15 + j, none⟩) hb).trans (hra0 j u hj)
          have hone := jobV_one hto hti htc
          have HJOK := Hid.mk (HH.out.2.jobs _ (List.getElem_mem hjn))
          have g2 := (HF1.out.below hS.low).2.1
          have hjI : ((o[q] : Nat) : Int) < (J : Int) := by have := HJ.out; omega
          obtain ⟨jn, hjn2⟩ : ∃ jn, o[q] = jn := ⟨_, rfl⟩
          obtain ⟨j, hj⟩ : ∃ j, f.jobs[o[q]] = j := ⟨_, rfl⟩
          rw [hj] at hra hone HJOK HNJ
          have HTO : Hid (Fw.StrsR w1 ao j.outs) := Hid.mk (by rw [← hj]; exact hto)
          have HTI : Hid (Fw.StrsR w1 ai j.ins) := Hid.mk (by rw [← hj]; exact hti)
          have HTC : Hid (Fw.StrsR w1 ac j.cols) := Hid.mk (by rw [← hj]; exact htc)
          rw [hjn2] at dO hra hjI
          clear hto hti htc hra0 hocell hj hjn2 hrun hjn
          obtain ⟨oa, oc2, hoe⟩ := strs_slice HTO.out
          obtain ⟨na, nc, hie⟩ := strs_slice HTI.out
          subst hoe
          subst hie
          obtain ⟨JL, hJL⟩ : ∃ JL, Fw.jobV j (.slice oa j.outs.length oc2) (.slice na j.ins.length nc) ac = JL := ⟨_, rfl⟩
          have hJ2 : JL[2]? = some (.slice oa j.outs.length oc2) := by rw [← hJL]; rfl
          have hJ3 : JL[3]? = some (.slice na j.ins.length nc) := by rw [← hJL]; rfl
          have hJ0 : JL[0]? = some (.int .i64 (j.at_ : Nat)) := by rw [← hJL]; rfl
          have hJl : JL.length = 15 := by rw [← hJL]; rfl
          have HJL := Hid.mk hJL
          rw [hJL] at hra hone
          obtain ⟨w3, hw3, hb3, hx3, hs3, hinf, hth⟩ := job_copy wb JL hJl hone
          have HRA := Hid.mk hra
          have HON := Hid.mk hone
          have HIN := Hid.mk hinf
          have HTH := Hid.mk hth
          have HW3 := Hid.mk hw3
          have HX3 := Hid.mk hx3
          have hc3 := hx3.cell 3 hJ3
          have HS3 := Hid.mk (HS.out.below hb3)
          have HJ0 := Hid.mk hJ0
          have HJ2 := Hid.mk hJ2
          have HIL : Hid (0 < j.ins.length) := Hid.mk (by have := (sizes_job HJOK.out).2; omega)
          obtain ⟨ni, hni⟩ : ∃ ni, j.ins.length = ni := ⟨_, rfl⟩
          have HNI := Hid.mk hni
          have hil : ni ≤ 1000 := by rw [← hni]; exact HJOK.out.il
          rw [hni] at hc3
          have HS33 := Hid.mk hs3
          clear hS hra hone hinf hth hw3 hx3 hb3 hJL hJ2 hJ3 hJ0 HS hs3
          go_wp2_with (first | (refine wpList_load_mid rfl 43 (.tmp 43) rfl b (jn * 15) rfl JL _ HRA.out Tryz.underlying43 rfl HIN.out ?_) | (refine wpList_store_mid rfl 43 (.tmp 11) (.tmp 44) rfl wb.heap.size 0 JL.toArray rfl rfl HTH.out HIN.out HON.out ?_; rw [show JL.toArray.toList = JL from rfl, ← HW3.out]))
          clear hni
          go_loopw [12, 48] (fun iv i wr => ∃ r : Nat, r ≤ ni ∧ i = .int .i64 r ∧ wr.ownsRow w3.heap.size 45 1 iv r (insU A (j.ins.take r)) ∧ Below w3.heap.size w3 wr) (fun _ i _ => ni - (intOf i).toNat)
          case atStart => exact ⟨0, Nat.zero_le _, rfl, World.ownsRow_nil _ _ _ _, Below.refl _ _⟩
          case round =>
            obtain ⟨r, hr, rfl, hown, hnx⟩ := hrel
            obtain ⟨la, lc, rfl⟩ := own_slice hown
            have HX := Hid.mk (And.intro hown hnx)
            have hws := hnx.size
            have HS4 := Hid.mk (HS3.out.below hnx)
            by_cases hlt3 : r < ni
            · have hr2 : r < j.ins.length := by have := HNI.out; omega
              rcases HTI.out with ⟨-, e0⟩ | ⟨nb, no, nc', e0, hcap2, hnb, hcell⟩
              · rw [e0] at hr2; exact absurd hr2 (by simp)
              simp only [Value.slice.injEq] at e0
              obtain ⟨rfl, -, rfl⟩ := e0
              have d1 := (HS4.out.low.cell (p := ⟨nb, no + r, none⟩) hnb).trans (hcell r hr2)
              obtain ⟨x, hx⟩ : ∃ x, j.ins[r] = x := ⟨_, rfl⟩
              have hxm : x ∈ j.ins := by rw [← hx]; exact List.getElem_mem hr2
              rw [hx] at d1
              obtain ⟨u, cs, hu1, -, hu3, -⟩ := HS4.out.mem.look (HNJ.out.read x hxm)
              have hlk := HS4.out.map.look x (HJOK.out.is x hxm) false
              rw [hu1] at hlk
              obtain ⟨ub, uo, uc, rfl, -, -, -⟩ := hu3
              have HTK : Hid (insU A (j.ins.take r) ++ [.slice (some ⟨ub, uo, none⟩) cs.length uc] = insU A (j.ins.take (r + 1))) := Hid.mk (by
                rw [List.take_succ_eq_append_getElem hr2, insU, insU, List.map_append, hx]
                simp [hu1])
              obtain ⟨bx, hbx⟩ : ∃ bx, ba x = bx := ⟨_, rfl⟩
              rw [hbx] at d1 hlk
              simp only [Option.getD_some, Bool.false_eq_true, if_false] at hlk
              generalize cs.length = cn at *
              clear hown hnx hcell hx hbx hxm hu1
              go_wp2_with (first | (at_builtin; refine wpList_append_own _ rfl _ _ 96 rfl w3.heap.size 45 i0 (.slice none 0 0) 1 24 Tryz.underlying96 hi hz0 hz1 hz2 rfl (by decide) _ _ _ rfl (HX.out.1.alloc _) ⟨wr.heap.size, 0, none⟩ 1 1 [.slice (some ⟨ub, uo, none⟩) cn uc] rfl rfl (news1 _ _ _ _ rfl) (one1s _ _ _) ?c3 ?c4 ?c5 ?_))
              case c3 => unfold maxLen; omega
              case c4 => omega
              case c5 => simp; omega
              intro v' w5 hown' hgrow _
              have hbl5 : Below w3.heap.size w3 w5 := (HX.out.2.alloc (by omega) _).grown hgrow (by simp; omega) (fun q hq => (HX.out.1.lt q hq).1)
              rw [HTK.out] at hown'
              have HF := Hid.mk (And.intro hown' hbl5)
              clear hown' hgrow hbl5 hlk
              go_wp2
              go_roundw
              case rel => exact ⟨r + 1, by omega, by go_num, HF.out.1, HF.out.2⟩
              case measure => simp [intOf]; omega
            · obtain rfl : r = ni := by omega
              have hfull : j.ins.take r = j.ins := List.take_of_length_le (by have := HNI.out; omega)
              rw [hfull] at hown
              obtain ⟨g, gc, e0, hhd⟩ := heads_of hown HNI.out (by have := HNI.out; have := HIL.out; omega) HS4.out.mem HNJ.out.read
              simp only [Value.slice.injEq, true_and] at e0
              obtain ⟨rfl, rfl⟩ := e0
              have hb1z := HS4.out.low
              have HCOL := Hid.mk (cols_job j (.slice oa j.outs.length oc2) (.slice na j.ins.length nc) ac (inC m j) g 0 lc wr HJOK.out (HTO.out.below hb1z) (HTC.out.below hb1z) hhd (inC_ok HS4.out.mem HS4.out.ok HNJ.out.read) (by simp [inC]))
              rw [HJL.out, show (inC m j).length = r by simp [inC]; exact HNI.out] at HCOL
              have HX4 := Hid.mk (HX3.out.below hnx)
              have hrg4 := HX4.out.range
              have HRG := Hid.mk hrg4
              clear hown hnx hfull hhd hb1z hrg4
              go_wp2_with (first | (refine wpList_load_mid rfl 43 (.tmp 11) rfl wb.heap.size 0 rfl JL _ HRG.out Tryz.underlying43 rfl HIN.out ?_) | (go_at_call 45; fail))
              refine HCOL.out.mono ?_
              rintro e5 w5 ⟨hb5, ⟨hE, rfl⟩ | ⟨hE, v5, us5, rfl, hv5, hu5⟩⟩
              · have HNO := Hid.mk (And.intro (HNJ.out.fail hE) hE)
                have HX5 := Hid.mk (HX4.out.below hb5)
                have HB5 := Hid.mk (bel_then HS4.out.low hb5)
                obtain ⟨en, hen⟩ : ∃ en, colsE j (inC m j) = en := ⟨_, rfl⟩
                rw [hen] at HNO ⊢
                have HAll : Hid (∀ V, Below w5.heap.size w5 V → V.cell? ⟨wb.heap.size, 0, none⟩ = some (.int .i64 (j.at_ : Nat))) := Hid.mk fun V hV => (HX5.out.below hV).cell 0 HJ0.out
                have G0 := Hid.mk (HAll.out w5.drew (Below.refl _ w5).drew)
                have HBd : Hid (Below w5.heap.size w5 w5.drew) := Hid.mk (Below.refl _ w5).drew
                have HTL : Hid (∀ V, Below w5.heap.size w5 V → Calls Tryz.prog 19 #[.iface 62 (.int .i64 en)] V fun ev w' => ev = .returned (.int .i64 en) ∧ Below V.heap.size V w') := Hid.mk fun V hV => Dk.tell_any en V (HGL.out V (bel_then HB5.out hV))
                clear hb5 hE hen
                go_wp2_with fail
                go_region_held3 (fun V => V.cell? ⟨wb.heap.size, 0, none⟩ = some (.int .i64 (j.at_ : Nat))) (first | exact G0.out | exact G1.out | exact G2.out) (first | (go_at_call 19; refine (HTL.out _ HBd.out).mono ?_; rintro e6 w6 ⟨rfl, hb6⟩; have HB6 := Hid.mk (HBd.out.trans (hb6.mono HBd.out.size)); have G1 := Hid.mk (HAll.out w6 HB6.out); clear hb6) | (go_at_call 24; refine (HAT.out _ _ _).mono ?_; rintro e7 w7 ⟨p, rfl, ha7, hb7⟩; have HA7 := Hid.mk ha7; have HB7 := Hid.mk (HB6.out.trans (hb7.mono HB6.out.size)); have G2 := Hid.mk (HAll.out w7 HB7.out); clear ha7 hb7))
                all_goals go_wp2
                all_goals refine bodyPost_ret (v := .tuple #[.map none, .iface 82 (.pointer (some ⟨p, 0, none⟩))]) (by simp [results, Tryz.results21, go_sem]) rfl ?_
                all_goals exact ⟨HB1.out.trans ((bel_then HB5.out HB7.out).mono HB1.out.size), Or.inl ⟨HNO.out.1, _, en, rfl, HNO.out.2, HA7.out⟩⟩
              · have HOK5 := Hid.mk (colsC_ok HJOK.out (by simp [inC]) (inC_ok HS4.out.mem HS4.out.ok HNJ.out.read) hE)
                have HST := Hid.mk (HNJ.out.step hE)
                have HS5 := Hid.mk (HS4.out.below hb5)
                have hX5 := HX4.out.below hb5
                have hc2 := hX5.cell 2 HJ2.out
                obtain ⟨cs, hcs⟩ : ∃ cs, colsC j (inC m j) = cs := ⟨_, rfl⟩
                rw [hcs] at HOK5 HST hu5
                have HU5 : Hid (∀ u ∈ us5, ColV w5 u cs) := Hid.mk (fun u hu => ColV.of (hu5 u hu) HOK5.out)
                have HV5 := Hid.mk (own_mono (Nat.zero_le _) hv5)
                obtain ⟨no, hno⟩ : ∃ no, j.outs.length = no := ⟨_, rfl⟩
                have HNO := Hid.mk hno
                have hol : no ≤ 1000 := by rw [← hno]; exact HJOK.out.ol
                obtain ⟨sa, sc, rfl⟩ := own_slice hv5
                rw [hno] at hc2 HV5 hv5 ⊢
                clear hb5 hE hcs hu5 hX5 hv5 hno
                go_wp2
                go_loopw [75] (fun i wy => ∃ r : Nat, r ≤ no ∧ i = .int .i64 r ∧ ∃ A', ColS w1 wy w1.heap.size A' (m ++ (j.outs.take r).map fun n => (n, cs)) ∧ wy.ownsRow 0 45 1 (.slice sa no sc) no us5 ∧ ∀ u ∈ us5, ColV wy u cs) (fun i _ => no - (intOf i).toNat)
                case atStart => exact ⟨0, Nat.zero_le _, rfl, A, by simpa using HS5.out, HV5.out, HU5.out⟩
                case round =>
                  clear HS5 HV5 HU5
                  obtain ⟨r2, hr2, rfl, A', hS6, hv6, hu6⟩ := hrel
                  have HS6 := Hid.mk hS6
                  by_cases hlt4 : r2 < no
                  · have hr3 : r2 < j.outs.length := by have := HNO.out; omega
                    rcases HTO.out with ⟨-, e0⟩ | ⟨tb, to_, tc', e0, hcap3, htb, hcell⟩
                    · rw [e0] at hr3; exact absurd hr3 (by simp)
                    simp only [Value.slice.injEq] at e0
                    obtain ⟨rfl, -, rfl⟩ := e0
                    have d1 := (hS6.low.cell (p := ⟨tb, to_ + r2, none⟩) htb).trans (hcell r2 hr3)
                    obtain ⟨x, hx⟩ : ∃ x, j.outs[r2] = x := ⟨_, rfl⟩
                    have hxm : x ∈ j.outs := by rw [← hx]; exact List.getElem_mem hr3
                    rw [hx] at d1
                    have HV6 := Hid.mk hv6
                    have h0 := hv6
                    obtain ⟨hxl, ⟨-, hn0⟩ | ⟨g2, cap2, cur2, e1, -⟩⟩ := hv6
                    · omega
                    simp only [Value.slice.injEq, true_and] at e1
                    obtain ⟨rfl, rfl⟩ := e1
                    have hu2 : r2 < us5.length := by omega
                    have c1 : wr.cell? ⟨g2, r2, none⟩ = some us5[r2] := by
                      rw [h0.cellAt r2 (by omega), List.getElem?_eq_getElem hu2]
                    obtain ⟨u, hu⟩ : ∃ u, us5[r2] = u := ⟨_, rfl⟩
                    have hcv := hu6 u (by rw [← hu]; exact List.getElem_mem hu2)
                    rw [hu] at c1
                    have hfr : x ∉ keysA A' := by
                      rw [hS6.mem.keys, show keysM (m ++ (j.outs.take r2).map fun n => (n, cs)) = keysM m ++ j.outs.take r2 by simp [keysM, Function.comp_def], ← hx]
                      exact HNJ.out.fresh r2 hr3
                    have hal : A'.length < 1000000 := by
                      rw [hS6.len, List.length_append, List.length_map, List.length_take]
                      have := HNJ.out.len
                      omega
                    obtain ⟨w7, hr7, hm7, hg7, hs7⟩ := hS6.map.put hfr hal (HJOK.out.os x hxm) u
                    have HTK : Hid (m ++ (j.outs.take (r2 + 1)).map (fun n => (n, cs)) = (m ++ (j.outs.take r2).map fun n => (n, cs)) ++ [(x, cs)]) := Hid.mk (by
                      rw [List.take_succ_eq_append_getElem hr3, List.map_append, hx, List.append_assoc]; rfl)
                    have HF := Hid.mk (And.intro (hS6.put (Nat.le_refl _) hcv HOK5.out hm7 hg7) (And.intro (HV6.out.kept hg7 (Or.inr (row_ne_map HV6.out hS6.map.obj))) (fun u hu => (hu6 u hu).put HOK5.out hS6.map.obj hg7)))
                    obtain ⟨ub, uo, uc, rfl, -, -, -⟩ := hcv
                    obtain ⟨bx, hbx⟩ : ∃ bx, ba x = bx := ⟨_, rfl⟩
                    rw [hbx] at d1 hr7
                    generalize cs.length = cn at *
                    clear hS6 hu6 h0 hcell hx hu hfr hal hm7 hg7 hbx hxl hs7
                    go_wp2
                    go_roundw
                    case rel => exact ⟨r2 + 1, by omega, by go_num, _, by rw [HTK.out]; exact HF.out.1, HF.out.2.1, HF.out.2.2⟩
                    case measure => simp [intOf]; omega
                  · obtain rfl : r2 = no := by omega
                    have HF : Hid (ColS w1 wr w1.heap.size A' (m ++ j.outs.map fun n => (n, cs))) := Hid.mk (by
                      have := hS6
                      rwa [List.take_of_length_le (by have := HNO.out; omega)] at this)
                    clear hS6 hv6 hu6
                    go_wp2
                    go_roundw
                    case rel => exact ⟨q + 1, by omega, by go_num, A', _, HF.out, HST.out⟩
                    case measure => simp [intOf]; omega
        · obtain rfl : q = J := by omega
          have HEND : Hid (colsO colsE colsC f o = some m) := Hid.mk (by
            unfold colsO
            have := hrun
            rwa [List.take_of_length_le (by rw [HOL.out]; exact Nat.le_refl _)] at this)
          clear hS hrun
          go_wp2
          refine bodyPost_ret (v := .tuple #[.map (some w1.heap.size), .nilIface]) (by simp [results, Tryz.results21, go_sem]) rfl ?_
          exact ⟨HB1.out.trans (HS.out.low.mono HB1.out.size), Or.inr ⟨m, A, _, HEND.out, rfl, HB1.out.size, HS.out.map, HS.out.mem, HS.out.ok⟩⟩
end Go.Proofs.YtfifbnopgpffkaaGreatDoor.Pl

