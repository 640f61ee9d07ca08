import Derived.Test.YtfifbnopgpffkaaGreatDoorPlnX
import Derived.Deep.RegionHeldLaw
import Derived.Laws.AppendOwnNone
set_option linter.unusedSimpArgs false
set_option linter.unusedVariables false
namespace Go.Proofs.YtfifbnopgpffkaaGreatDoor.Pl
open Go.RowKit Go.Maps Go.Shelf
open Fw (By FJob Flw ba strV encL zeroJ)

/-- What more comes to. -/
def MoreR (f : Flw) (nm : By) (w : World) (e : Ending) (w' : World) : Prop := Below w.heap.size w w' ∧
  ((∃ i0 vi gv vo, f.ins[0]? = some i0 ∧ f.jobs.length < 16 ∧ nm ∉ madeL f ∧ e = .returned (.tuple #[.agg #[vi, gv, vo], .bool true]) ∧ Fw.FlowRd w' (moreF f i0.name nm) vi gv vo) ∨
   ∃ a1 n1 c1 a2 n2 c2 a3 n3 c3, e = .returned (.tuple #[.agg #[.slice a1 n1 c1, .slice a2 n2 c2, .slice a3 n3 c3], .bool false]))
theorem made_any (f : Flw) (nm : By) : ((f.ins.any fun i => i.name == nm) || (f.jobs.any fun j => j.outs.contains nm)) = true ↔ nm ∈ madeL f := by
  unfold madeL
  rw [Bool.or_eq_true, List.mem_append, List.any_eq_true, List.any_eq_true, List.mem_map, List.mem_flatMap]
  refine or_congr ?_ ?_
  · refine exists_congr fun i => and_congr Iff.rfl ?_
    exact beq_iff_eq
  · refine exists_congr fun j => and_congr Iff.rfl ?_
    exact List.contains_iff_mem
theorem three_set {V : World} {R B : Nat} {a b c : Value} (h : Fw.Box V R [.slice none 0 0, .slice none 0 0, .slice none 0 0]) {w : World} (hb : Below B w V) (hR : B ≤ R) : FBox (((V.setCell ⟨R, 0, none⟩ a).setCell ⟨R, 1, none⟩ b).setCell ⟨R, 2, none⟩ c) R a b c ∧ Below B w (((V.setCell ⟨R, 0, none⟩ a).setCell ⟨R, 1, none⟩ b).setCell ⟨R, 2, none⟩ c) := by
  have X := ((h.set 0 a).set 1 b).set 2 c
  exact ⟨⟨X.cell 0 rfl, X.cell 1 rfl, X.cell 2 rfl⟩, ((hb.setCell (p := ⟨R, 0, none⟩) hR _).setCell (p := ⟨R, 1, none⟩) hR _).setCell (p := ⟨R, 2, none⟩) hR _⟩
theorem box_other {w : World} {k q i : Nat} {vs : List Value} {u : Value} (h : Fw.Box w k vs) (hne : q ≠ k) : Fw.Box (w.setCell ⟨q, i, none⟩ u) k vs := by
  refine h.block ?_
  simp [World.setCell, Array.getElem?_modify, hne]
/-- Behind the last store. -/
theorem more9 {w2 w3 w6 w7 W w8 : World} {R h : Nat} {vi vj vo gv : Value} (hR : R = w2.heap.size) (hb23 : Below w2.heap.size w2 w3) (hb37 : Below w3.heap.size w3 w7) (hb7W : Below w7.heap.size w7 W) (h67 : w6.heap.size < w7.heap.size) (h36 : w3.heap.size ≤ w6.heap.size) (hX7 : Fw.Box w7 w6.heap.size [vi, vj, vo]) (hXR : Fw.Box w3 R [.slice none 0 0, .slice none 0 0, .slice none 0 0]) (hg : W.grownBy w8 (some h)) (hh : w7.heap.size ≤ h) :
    FBox (w8.setCell ⟨w6.heap.size, 1, none⟩ gv) w6.heap.size vi gv vo ∧ Fw.Box (w8.setCell ⟨w6.heap.size, 1, none⟩ gv) R [.slice none 0 0, .slice none 0 0, .slice none 0 0] ∧ Below w2.heap.size w2 (w8.setCell ⟨w6.heap.size, 1, none⟩ gv) := by
  have hRl := hXR.lt
  have hX8 : Fw.Box w8 w6.heap.size [vi, vj, vo] := (hX7.below hb7W).grown hg (by intro e; injection e with e; omega)
  have hXR8 : Fw.Box w8 R [.slice none 0 0, .slice none 0 0, .slice none 0 0] := ((hXR.below hb37).below hb7W).grown hg (by intro e; injection e with e; have := hb37.size; omega)
  have hb2W := bel_then hb23 (bel_then hb37 hb7W)
  have hb28 : Below w2.heap.size w2 w8 := hb2W.grown hg hb2W.size (fun q hq => by injection hq with hq; have := hb37.size; have := hb23.size; omega)
  have hx := hX8.set 1 gv
  exact ⟨⟨hx.cell 0 rfl, hx.cell 1 rfl, hx.cell 2 rfl⟩, box_other hXR8 (by omega), hb28.setCell (p := ⟨w6.heap.size, 1, none⟩) (by show w2.heap.size ≤ w6.heap.size; have := hb23.size; omega) gv⟩
theorem step_append_both {P : Program} {ops : Array Oper} {o : Oper} {a : Act} {w : World} {K : Act → World → Prop} {Q : Exit → Act → World → Prop} {E : Prop} (hgd : o.guard = none) (s x : Operand) (t : TypeId)
    (ho : o.op = .call { callee := .builtin .append, args := #[s, x], argTypes := #[t, t] })
    (base : Nat) (e : TypeId) (i : TypeInfo) (z : Value) (size bytes : Nat) (ht : P.underlying t = some (.slice e)) (hi : P.info? e = some i) (hz : i.zero = some z)
    (hsize : i.size = size) (hby : i.bytes = bytes) (hzs : z.cells.size = size) (hsz : 0 < size)
    (v : Value) (n : Nat) (xs : List Value) (hs : a.eval s = v) (hown : w.ownsRow base e size v n xs)
    (ja : Option Addr) (m c : Nat) (news : List Value) (hx : a.eval x = .slice ja m c) (hl : news.length = m * size) (hj : (∃ ad, ja = some ad ∧ ∀ j u, news[j]? = some u → w.cell? (ad.add j) = some u) ∨ (ja = none ∧ m = 0 ∧ c = 0)) (h1 : ∀ u ∈ news, u.oneCell' = true)
    (h63 : n + m ≤ maxLen) (hbytes : (n + m) * bytes ≤ 140737488355328) (hbase : base ≤ w.heap.size)
    (h : ∀ v' w', w'.ownsRow base e size v' (n + m) (xs ++ news) → w.grownBy w' v.ownBlock → K (a.put o.dst v') w') :
    if Region.wanted o (yielded ops a.tmps) = true then Oper.wp P o a w K Q else E := by
  rcases hj with ⟨ad, rfl, hnews⟩ | ⟨rfl, rfl, rfl⟩
  · exact step_append_own hgd s x t ho base e i z size bytes ht hi hz hsize hby hzs hsz v n xs hs hown ad m c news hx hl hnews h1 h63 hbytes hbase (fun v' w' a b _ => h v' w' a b)
  · obtain rfl : news = [] := List.eq_nil_of_length_eq_zero (by rw [hl]; omega)
    rw [if_pos (by simp [Region.wanted, hgd])]
    have hrun := run_append_owned_none (P := P) (w := w) base t o.type e i size ht hi v n xs hown
    have hk := h v w (by rw [List.append_nil]; exact hown) ⟨rfl, rfl, rfl, Nat.le_refl _, fun _ _ _ => rfl⟩
    unfold Oper.wp
    simp [execOp, ho, resolve, invoke, builtin, hs, hx, hrun, Result.andThen]
    exact hk
theorem strs_new {w : World} {g : Nat} {n : By} (h : Fw.Box w g [.string (ba n)]) : Fw.StrsR w (.slice (some ⟨g, 0, none⟩) 1 1) [n] := by
  refine Or.inr ⟨g, 0, 1, rfl, Nat.le_refl _, h.lt, fun j hj => ?_⟩
  have : j = 0 := by simp at hj; omega
  subst this
  exact h.cell 0 rfl
theorem more10 {w2 w3 w6 w7 W w8 : World} {R h b ob sb : Nat} {vi vj vo gv : Value} {f : Flw} {a nm : By} {F : Nat → List Value} (hR : R = w2.heap.size) (hb23 : Below w2.heap.size w2 w3) (hb37 : Below w3.heap.size w3 w7) (hb7W : Below w7.heap.size w7 W) (h67 : w6.heap.size < w7.heap.size) (h36 : w3.heap.size ≤ w6.heap.size) (hX7 : Fw.Box w7 w6.heap.size [vi, vj, vo]) (hXR : Fw.Box w3 R [.slice none 0 0, .slice none 0 0, .slice none 0 0]) (hg : W.grownBy w8 (some h)) (hh : h = w7.heap.size + 1 + 1)
    (hob : w7.heap.size ≤ ob ∧ ob ≤ w7.heap.size + 1) (hsb : w7.heap.size ≤ sb ∧ sb ≤ w7.heap.size + 1) (hBo : Fw.Box W ob [.string (ba nm)]) (hBs : Fw.Box W sb [.string (ba a)])
    (ho : w8.ownsRow w7.heap.size 43 15 gv (f.jobs.length + 1) (Fw.jobV (newJ a nm) (.slice (some ⟨ob, 0, none⟩) 1 1) (.slice (some ⟨sb, 0, none⟩) 1 1) (.slice none 0 0) ++ (List.range' 0 f.jobs.length).flatMap F))
    (hF : ∀ j, j < f.jobs.length → JC w2 b f.jobs j (F j)) (hin : Fw.RowR w2 vi f.ins.length 3 (Fw.InAt f.ins)) (hout : Fw.RowR w2 vo f.outs.length 3 (Fw.OutAt f.outs)) :
    (FBox (w8.setCell ⟨w6.heap.size, 1, none⟩ gv) w6.heap.size vi gv vo ∧ Fw.Box (w8.setCell ⟨w6.heap.size, 1, none⟩ gv) R [.slice none 0 0, .slice none 0 0, .slice none 0 0]) ∧
    FBox ((((w8.setCell ⟨w6.heap.size, 1, none⟩ gv).setCell ⟨R, 0, none⟩ vi).setCell ⟨R, 1, none⟩ gv).setCell ⟨R, 2, none⟩ vo) R vi gv vo ∧ Below w2.heap.size w2 ((((w8.setCell ⟨w6.heap.size, 1, none⟩ gv).setCell ⟨R, 0, none⟩ vi).setCell ⟨R, 1, none⟩ gv).setCell ⟨R, 2, none⟩ vo) ∧
    Fw.FlowRd ((((w8.setCell ⟨w6.heap.size, 1, none⟩ gv).setCell ⟨R, 0, none⟩ vi).setCell ⟨R, 1, none⟩ gv).setCell ⟨R, 2, none⟩ vo) (moreF f a nm) vi gv vo := by
  have hRl := hXR.lt
  obtain ⟨hf9, hX9, hb9⟩ := more9 (gv := gv) hR hb23 hb37 hb7W h67 h36 hX7 hXR hg (by omega)
  obtain ⟨hz, hbz⟩ := three_set (a := vi) (b := gv) (c := vo) hX9 hb9 (Nat.le_of_eq hR.symm)
  have hs := hb37.size
  have keep : ∀ k vs, w7.heap.size ≤ k → k ≤ w7.heap.size + 1 → Fw.Box W k vs → Fw.Box ((((w8.setCell ⟨w6.heap.size, 1, none⟩ gv).setCell ⟨R, 0, none⟩ vi).setCell ⟨R, 1, none⟩ gv).setCell ⟨R, 2, none⟩ vo) k vs := fun k vs h1 h2 hk => by
    have h8 : Fw.Box w8 k vs := hk.grown hg (by intro e; injection e with e; omega)
    exact box_other (box_other (box_other (box_other h8 (by omega)) (by omega)) (by omega)) (by omega)
  refine ⟨⟨hf9, hX9⟩, hz, hbz, more_flow (B := w7.heap.size) hF hin hout hbz (strs_new (keep _ _ hob.1 hob.2 hBo)) (strs_new (keep _ _ hsb.1 hsb.2 hBs)) ?_⟩
  exact ownsRow_setCell_below (ownsRow_setCell_below (ownsRow_setCell_below (ownsRow_setCell_below ho (a := ⟨w6.heap.size, 1, none⟩) h67 gv) (a := ⟨R, 0, none⟩) (by show R < _; omega) vi) (a := ⟨R, 1, none⟩) (by show R < _; omega) gv) (a := ⟨R, 2, none⟩) (by show R < _; omega) vo
theorem cell3 {w : World} {p : Addr} {v : Value} (h : w.drew.cell? p = some v) : (∀ o, (w.alloc o).drew.cell? p = some v) ∧ (∀ o o', ((w.alloc o).alloc o').drew.cell? p = some v) ∧ ∀ o o' o'', (((w.alloc o).alloc o').alloc o'').drew.cell? p = some v := by
  have h0 : w.cell? p = some v := h
  have h1 : ∀ (V : World) o, V.cell? p = some v → (V.alloc o).cell? p = some v := fun V o hV => cell_below hV (below_box _ _)
  exact ⟨fun o => h1 _ o h0, fun o o' => h1 _ o' (h1 _ o h0), fun o o' o'' => h1 _ o'' (h1 _ o' (h1 _ o h0))⟩
set_option maxRecDepth 100000 in
set_option maxHeartbeats 3200000 in
theorem more_any (f : Flw) (vi vj vo : Value) (nm : By) (w : World) (h : Fw.FlowRd w f vi vj vo) (hf : Fw.FlwOK f) (hn : nm.length ≤ 40) :
    Calls Tryz.prog 16 #[.agg #[vi, vj, vo], .string (ba nm)] w fun e w' => MoreR f nm w e w' := by
  obtain ⟨i0, hi, hz0, hz1, hz2⟩ := info_parts Fw.Tryz.infoJob
  obtain ⟨ia, ic, rfl⟩ := row_slice h.ins
  obtain ⟨ja, jc, rfl⟩ := row_slice h.jobs
  obtain ⟨oa, oc, rfl⟩ := row_slice h.outs
  obtain ⟨J, hJ⟩ : ∃ J, f.jobs.length = J := ⟨_, rfl⟩
  obtain ⟨I, hI⟩ : ∃ I, f.ins.length = I := ⟨_, rfl⟩
  have hJ16 : J ≤ 16 := by rw [← hJ]; exact hf.jl
  have hI16 : I ≤ 16 := by rw [← hI]; exact hf.il
  have HJ := Hid.mk hJ
  have HI := Hid.mk hI
  rw [hJ, hI] at h ⊢
  have hsz : (ba nm).size ≤ maxLen := by show nm.toArray.size ≤ _; unfold maxLen; simp; omega
  have hNM : Hid (∀ V, Calls Tryz.prog 32 #[.string (ba nm)] V fun e w' => e = .returned (.bool (nameB nm)) ∧ Below V.heap.size V w') := Hid.mk fun V => by
    have := name_any (ba nm) V hsz
    rwa [show (ba nm).data.toList = nm by simp [ba]] at this
  obtain ⟨w1, hw1⟩ : ∃ x, w.alloc (.cells #[.slice ia I ic, .slice ja J jc, .slice oa f.outs.length oc] 27) = x := ⟨_, rfl⟩
  have hB1 : Below w.heap.size w w1 := by rw [← hw1]; exact below_box _ _
  have hF1 : FBox w1 w.heap.size (.slice ia I ic) (.slice ja J jc) (.slice oa f.outs.length oc) := by rw [← hw1]; exact FBox.new _ _ _ _ _
  obtain ⟨w2, hw2⟩ : ∃ x, w1.alloc (.cells #[.string (ba nm)] 9) = x := ⟨_, rfl⟩
  have hB2 : Below w1.heap.size w1 w2 := by rw [← hw2]; exact below_box _ _
  have hN2 : w2.cell? ⟨w1.heap.size, 0, none⟩ = some (.string (ba nm)) := by rw [← hw2]; exact (Fw.Box.new w1 [.string (ba nm)] _ _ rfl).cell 0 rfl
  obtain ⟨w3, hw3⟩ : ∃ x, w2.alloc (.cells #[.slice none 0 0, .slice none 0 0, .slice none 0 0] 27) = x := ⟨_, rfl⟩
  have hB3 : Below w2.heap.size w2 w3 := by rw [← hw3]; exact below_box _ _
  have hX3 : Fw.Box w3 w2.heap.size [.slice none 0 0, .slice none 0 0, .slice none 0 0] := by rw [← hw3]; exact Fw.Box.new w2 _ _ _ rfl
  have hb13 := bel_then hB2 hB3
  have hb03 := bel_then hB1 hb13
  have hR : w.heap.size ≤ w2.heap.size := (bel_then hB1 hB2).size
  have HR := Hid.mk hR
  have HB := Hid.mk hb03
  have HX := Hid.mk hX3
  have HF := Hid.mk (hF1.below hb13)
  have HNC := Hid.mk (cell_below hN2 hB3)
  have HH := Hid.mk (And.intro (h.below hb03) hf)
  have HH2 := Hid.mk (h.below (bel_then hB1 hB2))
  have HB23 := Hid.mk hB3
  have HB02 := Hid.mk (bel_then hB1 hB2)
  have g1 := HF.out.1
  have g2 := HF.out.2.1
  have g3 := HF.out.2.2
  have g4 := HNC.out
  have k0 := hX3.cell 0 (v := .slice none 0 0) rfl
  have k1 := hX3.cell 1 (v := .slice none 0 0) rfl
  have k2 := hX3.cell 2 (v := .slice none 0 0) rfl
  have l0 := hX3.fz 0
  have l1 := hX3.fz 1
  have l2 := hX3.fz 2
  generalize f.outs.length = O at *
  generalize hx : ba nm = x at *
  clear h hf hJ hI hB1 hF1 hB2 hN2 hB3 hX3 hb13 hb03 hR
  by_cases h0 : I = 0
  · have h0I : (I : Int) = 0 := by omega
    clear h0
    go_enter Tryz.func16, Tryz.ntmps16
    go_wp2
    obtain ⟨z, B2⟩ := three_set (a := .slice ia I ic) (b := .slice ja J jc) (c := .slice oa O oc) HX.out HB.out HR.out
    have z0 := z.1
    have z1 := z.2.1
    have z2 := z.2.2
    refine bodyPost_ret (v := .tuple #[.agg #[.slice ia I ic, .slice ja J jc, .slice oa O oc], .bool false]) (by simp [results, Tryz.results16, go_sem, z0, z1, z2]) rfl ?_
    exact ⟨B2, Or.inr ⟨_, _, _, _, _, _, _, _, _, rfl⟩⟩
  have h0I : ¬ (I : Int) = 0 := by omega
  by_cases h16 : 16 ≤ J
  · have h16I : (16 : Int) ≤ (J : Int) := by omega
    go_enter Tryz.func16, Tryz.ntmps16
    go_wp2
    obtain ⟨z, B2⟩ := three_set (a := .slice ia I ic) (b := .slice ja J jc) (c := .slice oa O oc) HX.out HB.out HR.out
    have z0 := z.1
    have z1 := z.2.1
    have z2 := z.2.2
    refine bodyPost_ret (v := .tuple #[.agg #[.slice ia I ic, .slice ja J jc, .slice oa O oc], .bool false]) (by simp [results, Tryz.results16, go_sem, z0, z1, z2]) rfl ?_
    exact ⟨B2, Or.inr ⟨_, _, _, _, _, _, _, _, _, rfl⟩⟩
  have h16I : ¬ (16 : Int) ≤ (J : Int) := by omega
  cases hnb : nameB nm
  · rw [hnb] at hNM
    clear hnb
    go_enter Tryz.func16, Tryz.ntmps16
    go_wp2_with (first | (go_at_call 32; refine (hNM.out _).mono ?_; rintro e4 w4 ⟨rfl, hb4⟩; have HB4 := Hid.mk (bel_then HB.out hb4); have HX4 := Hid.mk (HX.out.below hb4); have HF4 := HF.out.below hb4; have q1 := HF4.1; have q2 := HF4.2.1; have q3 := HF4.2.2; have c0 := HX4.out.cell 0 (v := .slice none 0 0) rfl; have c1 := HX4.out.cell 1 (v := .slice none 0 0) rfl; have c2 := HX4.out.cell 2 (v := .slice none 0 0) rfl; have d0 := HX4.out.fz 0; have d1 := HX4.out.fz 1; have d2 := HX4.out.fz 2; clear hb4 HF4))
    obtain ⟨z, B2⟩ := three_set (a := .slice ia I ic) (b := .slice ja J jc) (c := .slice oa O oc) HX4.out HB4.out HR.out
    have z0 := z.1
    have z1 := z.2.1
    have z2 := z.2.2
    refine bodyPost_ret (v := .tuple #[.agg #[.slice ia I ic, .slice ja J jc, .slice oa O oc], .bool false]) (by simp [results, Tryz.results16, go_sem, z0, z1, z2]) rfl ?_
    exact ⟨B2, Or.inr ⟨_, _, _, _, _, _, _, _, _, rfl⟩⟩
  · rw [hnb] at hNM
    clear hnb
    obtain ⟨b1, hb1⟩ : ∃ b, (f.ins.any fun i => i.name == nm) = b := ⟨_, rfl⟩
    obtain ⟨b2, hb2⟩ : ∃ b, (f.jobs.any fun j => j.outs.contains nm) = b := ⟨_, rfl⟩
    have HM1 : Hid (∀ V, Below w3.heap.size w3 V → Calls Tryz.prog 33 #[.slice ia I ic, .func (.func 34) #[] #[.pointer (some ⟨w1.heap.size, 0, none⟩)]] V fun e w' => e = .returned (.bool b1) ∧ Below V.heap.size V w') := Hid.mk fun V hV => by
      rw [← hb1]; exact has_more1 _ f.ins nm _ V (HH.out.1.below hV).ins (by rw [HI.out]; omega) (by rw [hx]; exact cell_below HNC.out hV)
    have HM2 : Hid (∀ V, Below w3.heap.size w3 V → Calls Tryz.prog 35 #[.slice ja J jc, .func (.func 36) #[] #[.pointer (some ⟨w1.heap.size, 0, none⟩)]] V fun e w' => e = .returned (.bool b2) ∧ Below V.heap.size V w') := Hid.mk fun V hV => by
      rw [← hb2]; exact has_more2 f _ _ _ nm _ V (HH.out.1.below hV) HH.out.2 (by rw [hx]; exact cell_below HNC.out hV)
    have HMD : Hid ((b1 || b2) = true ↔ nm ∈ madeL f) := Hid.mk (by rw [← hb1, ← hb2]; exact made_any f nm)
    have hmf : ∀ (fn : Fn) (first cap : Array Value) (w : World), (Instr.makeFunc fn first cap).run Tryz.prog w = .ok (.func fn first cap) w := fun _ _ _ _ => rfl
    have hI1 : 0 < f.ins.length := by rw [HI.out]; omega
    obtain ⟨i1, hi1⟩ : ∃ i1, f.ins[0]? = some i1 := ⟨_, List.getElem?_eq_getElem hI1⟩
    have HI1 := Hid.mk hi1
    rcases HH.out.1.ins with ⟨-, e0⟩ | ⟨ib, ic', e0, hicap, hib, hicell⟩
    · rw [HI.out] at e0; exact absurd e0 h0
    rw [HI.out] at e0
    simp only [Value.slice.injEq, true_and] at e0
    obtain ⟨rfl, rfl⟩ := e0
    obtain ⟨i1', vcol, hi1', -, hin1, -⟩ := hicell 0 hI1
    obtain rfl : i1 = i1' := Option.some.inj (hi1.symm.trans hi1')
    have HIN := Hid.mk hin1
    have HIB := Hid.mk hib
    clear hb1 hb2 hi1 hi1' hin1 hicell hicap hib hI1
    cases b1
    case' false =>
      go_enter Tryz.func16, Tryz.ntmps16
      go_wp2_with (first | (go_at_call 32; refine (hNM.out _).mono ?_; rintro e4 w4 ⟨rfl, hb4⟩; have HB4 := Hid.mk hb4; have HF4 := HF.out.below hb4; have q1 := HF4.1; have q2 := HF4.2.1; have q3 := HF4.2.2; clear hb4 HF4) | (go_at_call 33; refine (HM1.out _ HB4.out).mono ?_; rintro e5 w5 ⟨rfl, hb5⟩; have HB5 := Hid.mk (bel_then HB4.out hb5); have HF5 := HF.out.below HB5.out; have r1 := HF5.1; have r2 := HF5.2.1; have r3 := HF5.2.2; clear hb5 HF5) | (go_at_call 35; fail))
      refine (HM2.out _ HB5.out).mono ?_
      rintro e6 w6 ⟨rfl, hb6⟩
      have hb36 := bel_then HB5.out hb6
      clear hb6
    case' true =>
      go_enter Tryz.func16, Tryz.ntmps16
      go_wp2_with (first | (go_at_call 32; refine (hNM.out _).mono ?_; rintro e4 w4 ⟨rfl, hb4⟩; have HB4 := Hid.mk hb4; have HF4 := HF.out.below hb4; have q1 := HF4.1; have q2 := HF4.2.1; have q3 := HF4.2.2; clear hb4 HF4) | (go_at_call 33; fail))
      refine (HM1.out _ HB4.out).mono ?_
      rintro e6 w6 ⟨rfl, hb6⟩
      have hb36 := bel_then HB4.out hb6
      clear hb6
    all_goals
      have hF6 := HF.out.below hb36
      have p1 := hF6.1
      have p2 := hF6.2.1
      have p3 := hF6.2.2
      obtain ⟨w7, hw7⟩ : ∃ y, w6.alloc (.cells #[.slice (some ⟨ib, 0, none⟩) I ic, .slice ja J jc, .slice oa O oc] 27) = y := ⟨_, rfl⟩
      have hb67 : Below w6.heap.size w6 w7 := by rw [← hw7]; exact below_box _ _
      have hX7 : Fw.Box w7 w6.heap.size [.slice (some ⟨ib, 0, none⟩) I ic, .slice ja J jc, .slice oa O oc] := by rw [← hw7]; exact Fw.Box.new w6 _ _ _ rfl
      have hX7d : Fw.Box w7.drew w6.heap.size [.slice (some ⟨ib, 0, none⟩) I ic, .slice ja J jc, .slice oa O oc] := hX7.block rfl
      have hb37 : Below w3.heap.size w3 w7.drew := bel_then hb36 hb67.drew
      have hF7 := HF.out.below hb37
      have t1 := hF7.1
      have t2 := hF7.2.1
      have t4 := cell_below HNC.out hb37
      have t5 : w7.drew.cell? ⟨ib, 1, none⟩ = some (.string (ba i1.name)) := (hb37.cell (p := ⟨ib, 1, none⟩) HIB.out).trans HIN.out
      have HLT : Hid (w.heap.size < w6.heap.size ∧ w1.heap.size < w6.heap.size ∧ ib < w6.heap.size) := Hid.mk ⟨Nat.lt_of_lt_of_le HF.out.lt hb36.size, Nat.lt_of_lt_of_le (World.block_lt_of_cell? _ _ HNC.out) hb36.size, Nat.lt_of_lt_of_le HIB.out hb36.size⟩
      have HX7 := Hid.mk hX7
      have HB36 := Hid.mk hb36
      have HB7 := Hid.mk (show Below w3.heap.size w3 w7 from bel_then hb36 hb67)
      generalize hy : ba i1.name = y at *
      clear hb36 hF6 hb67 hX7 hX7d hb37 hF7 g1 g2 g3 g4 k0 k1 k2 l0 l1 l2
      obtain ⟨F, hF, hu⟩ : ∃ F : Nat → List Value, (∃ b, ∀ j, j < J → JC w2 b f.jobs j (F j)) ∧ ((List.range' 0 J).flatMap F).length = J * 15 ∧ (∀ u ∈ (List.range' 0 J).flatMap F, u.oneCell' = true) ∧ ∀ V, Below w3.heap.size w3 V → (∃ ad, ja = some ad ∧ ∀ j u, ((List.range' 0 J).flatMap F)[j]? = some u → V.cell? (ad.add j) = some u) ∨ (ja = none ∧ J = 0 ∧ jc = 0) := by
        rcases HH2.out.jobs with ⟨e1, e0⟩ | ⟨jb, jc', e0, hjcap, hjb, hjcell⟩
        · rw [HJ.out] at e0
          simp only [Value.slice.injEq] at e1
          obtain ⟨rfl, -, rfl⟩ := e1
          subst e0
          exact ⟨fun _ => [], ⟨0, fun j hj => absurd hj (by omega)⟩, rfl, by simp, fun V hV => Or.inr ⟨rfl, rfl, rfl⟩⟩
        · rw [HJ.out] at e0 hjcap hjcell
          simp only [Value.slice.injEq, true_and] at e0
          obtain ⟨rfl, rfl⟩ := e0
          obtain ⟨F, hF⟩ := jobs_cells hjcell
          obtain ⟨u1, u2, u3⟩ := part_cells (s := 0) (m := J) hF (by omega)
          refine ⟨F, ⟨jb, hF⟩, u1, u3, fun V hV => Or.inl ⟨_, rfl, fun j u hu => ?_⟩⟩
          rw [Addr.add_mid]
          exact ((bel_then HB23.out hV).cell (p := ⟨jb, 0 + j, none⟩) hjb).trans (by have := u2 j u hu; rwa [Nat.zero_mul] at this)
      · obtain ⟨fb, hF⟩ := hF
        obtain ⟨u1, u3, u2⟩ := hu
        have HFC := Hid.mk hF
        have HU1 := Hid.mk u1
        have HU2 := Hid.mk u2
        have HU3 := Hid.mk u3
        clear hF u1 u2 u3
        have s0 : 0 < I := by omega
        obtain ⟨t1a, t1b, t1c⟩ := cell3 t1
        obtain ⟨t2a, t2b, t2c⟩ := cell3 t2
        obtain ⟨t4a, t4b, t4c⟩ := cell3 t4
        obtain ⟨t5a, t5b, t5c⟩ := cell3 t5
        go_wp2
        have L1 : w.heap.size < w7.heap.size := World.block_lt_of_cell? w7 ⟨w.heap.size, 0, none⟩ t1
        have L2 : w1.heap.size < w7.heap.size := World.block_lt_of_cell? w7 ⟨w1.heap.size, 0, none⟩ t4
        have L3 : ib < w7.heap.size := World.block_lt_of_cell? w7 ⟨ib, 1, none⟩ t5
        have L0 := HX7.out.lt
        have S9 : Hid (∀ V : World, (V.cell? ⟨w.heap.size, 0, none⟩ = some (.slice (some ⟨ib, 0, none⟩) I ic) ∧ V.cell? ⟨w.heap.size, 1, none⟩ = some (.slice ja J jc) ∧ V.cell? ⟨w1.heap.size, 0, none⟩ = some (.string x) ∧ V.cell? ⟨ib, 1, none⟩ = some (.string y)) → ∀ u, (V.setCell ⟨w6.heap.size, 1, none⟩ u).cell? ⟨w.heap.size, 0, none⟩ = some (.slice (some ⟨ib, 0, none⟩) I ic) ∧ (V.setCell ⟨w6.heap.size, 1, none⟩ u).cell? ⟨w.heap.size, 1, none⟩ = some (.slice ja J jc) ∧ (V.setCell ⟨w6.heap.size, 1, none⟩ u).cell? ⟨w1.heap.size, 0, none⟩ = some (.string x) ∧ (V.setCell ⟨w6.heap.size, 1, none⟩ u).cell? ⟨ib, 1, none⟩ = some (.string y)) := Hid.mk fun V h u => by
          have hs := HLT.out
          have hb := (Below.refl w6.heap.size V).setCell (p := ⟨w6.heap.size, 1, none⟩) (Nat.le_refl _) u
          exact ⟨(hb.cell (p := ⟨w.heap.size, 0, none⟩) hs.1).trans h.1, (hb.cell (p := ⟨w.heap.size, 1, none⟩) hs.1).trans h.2.1, (hb.cell (p := ⟨w1.heap.size, 0, none⟩) hs.2.1).trans h.2.2.1, (hb.cell (p := ⟨ib, 1, none⟩) hs.2.2).trans h.2.2.2⟩
        go_region_held_law (fun w' => w'.cell? ⟨w.heap.size, 0, none⟩ = some (.slice (some ⟨ib, 0, none⟩) I ic) ∧ w'.cell? ⟨w.heap.size, 1, none⟩ = some (.slice ja J jc) ∧ w'.cell? ⟨w1.heap.size, 0, none⟩ = some (.string x) ∧ w'.cell? ⟨ib, 1, none⟩ = some (.string y)) (first | exact ⟨t1, t2, t4, t5⟩ | exact ⟨t1a _, t2a _, t4a _, t5a _⟩ | exact ⟨t1b _ _, t2b _ _, t4b _ _, t5b _ _⟩ | exact ⟨t1c _ _ _, t2c _ _ _, t4c _ _ _, t5c _ _ _⟩ | exact S8.out | exact S9.out _ S8.out _) (first | (refine step_append_both (by rfl) _ _ _ (by rfl) w7.drew.heap.size 43 i0 _ 15 208 Tryz.underlying24 hi hz0 hz1 hz2 rfl (by decide) _ 1 _ (by rfl) (Fw.own_new1 _ _ _ _ 15 _ rfl (by simp; omega) (by simp)) ja J jc _ (by rfl) HU1.out (HU2.out _ (by repeat' (first | exact HB7.out | refine Below.drew ?_ | refine bel_box ?_ _))) HU3.out (by unfold maxLen; omega) (by omega) (by simp; omega) ?_; intro v8 w8 ho8 hg8; obtain ⟨a8, n8, rfl⟩ := own_slice ho8; have HO8 := Hid.mk ho8; have HG8 := Hid.mk hg8; have hX8 := (HX7.out.below (by repeat' (first | exact Below.refl _ _ | refine Below.drew ?_ | refine bel_box ?_ _))).grown hg8 (by simp [Value.ownBlock]; omega); have c8 := hX8.cell 1 rfl; have f8 := hX8.fz 1; have HX8 := Hid.mk hX8; have S8 := Hid.mk (And.intro (hg8.cell (t1c _ _ _) (by simp [Value.ownBlock]; omega)) (And.intro (hg8.cell (t2c _ _ _) (by simp [Value.ownBlock]; omega)) (And.intro (hg8.cell (t4c _ _ _) (by simp [Value.ownBlock]; omega)) (hg8.cell (t5c _ _ _) (by simp [Value.ownBlock]; omega))))); clear ho8 hg8 hX8))
        all_goals
          obtain ⟨⟨hf9, hX9⟩, hz, hbz, hfl⟩ := (show _ from by
            first
            | exact more10 (f := f) (a := i1.name) (nm := nm) (ob := w7.heap.size) (sb := w7.heap.size + 1) (gv := .slice a8 (1 + J) n8) rfl HB23.out HB7.out (by repeat' (first | exact Below.refl _ _ | refine Below.drew ?_ | refine bel_box ?_ _)) L0 HB36.out.size HX7.out HX.out HG8.out rfl ⟨Nat.le_refl _, by omega⟩ ⟨by omega, by omega⟩ (by rw [hx]; exact (Fw.Box.new w7 _ 9 _ rfl).below (by repeat' (first | exact Below.refl _ _ | refine Below.drew ?_ | refine bel_box ?_ _))) (by rw [hy]; exact (Fw.Box.new (w7.alloc _) _ 9 _ (by simp)).below (by repeat' (first | exact Below.refl _ _ | refine Below.drew ?_ | refine bel_box ?_ _))) (by rw [HJ.out, Nat.add_comm J 1]; exact HO8.out) (by rw [HJ.out]; exact HFC.out) HH2.out.ins HH2.out.outs
            | exact more10 (f := f) (a := i1.name) (nm := nm) (ob := w7.heap.size + 1) (sb := w7.heap.size) (gv := .slice a8 (1 + J) n8) rfl HB23.out HB7.out (by repeat' (first | exact Below.refl _ _ | refine Below.drew ?_ | refine bel_box ?_ _)) L0 HB36.out.size HX7.out HX.out HG8.out rfl ⟨by omega, by omega⟩ ⟨Nat.le_refl _, by omega⟩ (by rw [hx]; exact (Fw.Box.new (w7.alloc _) _ 9 _ (by simp)).below (by repeat' (first | exact Below.refl _ _ | refine Below.drew ?_ | refine bel_box ?_ _))) (by rw [hy]; exact (Fw.Box.new w7 _ 9 _ rfl).below (by repeat' (first | exact Below.refl _ _ | refine Below.drew ?_ | refine bel_box ?_ _))) (by rw [HJ.out, Nat.add_comm J 1]; exact HO8.out) (by rw [HJ.out]; exact HFC.out) HH2.out.ins HH2.out.outs)
          clear c8 f8 S8 S9 HX8 HO8 HG8 t1a t1b t1c t2a t2b t2c t4a t4b t4c t5a t5b t5c t1 t2 t4 t5
          generalize w8.setCell ⟨w6.heap.size, 1, none⟩ (.slice a8 (1 + J) n8) = w9 at *
          have y0 := hf9.1
          have y1 := hf9.2.1
          have y2 := hf9.2.2
          have e0 := hX9.cell 0 rfl
          have e1 := hX9.cell 1 rfl
          have e2 := hX9.cell 2 rfl
          have d0 := hX9.fz 0
          have d1 := hX9.fz 1
          have d2 := hX9.fz 2
          have HZ := Hid.mk (And.intro hz (And.intro hbz hfl))
          clear hf9 hX9 hz hbz hfl
          cases b2
          all_goals
            go_wp2
            have z0 := HZ.out.1.1
            have z1 := HZ.out.1.2.1
            have z2 := HZ.out.1.2.2
            first
            | (refine bodyPost_ret (v := .tuple #[.agg #[.slice (some ⟨ib, 0, none⟩) I ic, .slice a8 (1 + J) n8, .slice oa O oc], .bool false]) ?_ rfl ?_; (focus (simp [results, Tryz.results16, go_sem, z0, z1, z2]; done)); exact ⟨bel_then HB02.out HZ.out.2.1, Or.inr ⟨_, _, _, _, _, _, _, _, _, rfl⟩⟩)
            | (refine bodyPost_ret (v := .tuple #[.agg #[.slice (some ⟨ib, 0, none⟩) I ic, .slice a8 (1 + J) n8, .slice oa O oc], .bool true]) ?_ rfl ?_; (focus (simp [results, Tryz.results16, go_sem, z0, z1, z2]; done)); exact ⟨bel_then HB02.out HZ.out.2.1, Or.inl ⟨i1, _, _, _, HI1.out, by rw [HJ.out]; omega, fun hm => by have := HMD.out.2 hm; simp at this, rfl, HZ.out.2.2⟩⟩)
end Go.Proofs.YtfifbnopgpffkaaGreatDoor.Pl
