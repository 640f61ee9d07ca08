import Derived.Test.YtfifbnopgpffkaaGreatDoorPlnH
import Derived.Deep.RegionLaw
import Derived.Deep.AppendLies
set_option linter.unusedSimpArgs false
set_option linter.unusedVariables false
namespace Go.Proofs.YtfifbnopgpffkaaGreatDoor.Pl
open Go.RowKit
open Fw (By FJob Flw ba)

theorem intCells_app (l : List Nat) (k : Nat) : intCells (l ++ [k]) = intCells l ++ [.int .i64 (k : Int)] := by simp [intCells]
/-- What Order has yet: jobs that are left, jobs that are told. -/
structure OrdS (w1 wr : World) (T B : Nat) (lv tv : Value) (left told : List Nat) : Prop where
  low : Below w1.heap.size w1 wr
  box : Fw.Box wr T [tv]
  left : wr.ownsRow B 3 1 lv left.length (intCells left)
  told : wr.ownsRow B 3 1 tv told.length (intCells told)
  apart : lv.ownBlock = none ∨ lv.ownBlock ≠ tv.ownBlock
theorem OrdS.below {w1 wr w' : World} {T B : Nat} {lv tv : Value} {left told : List Nat} (h : OrdS w1 wr T B lv tv left told) (hb : Below wr.heap.size wr w') : OrdS w1 w' T B lv tv left told :=
  ⟨bel_then h.low hb, h.box.below hb, owns_below h.left hb, owns_below h.told hb, h.apart⟩
theorem OrdS.del {w1 wr w' : World} {T B : Nat} {lv tv lv' : Value} {left told left' : List Nat} (h : OrdS w1 wr T B lv tv left told) (hT : T < B) (h1B : w1.heap.size ≤ B) (hg : wr.grownBy w' lv.ownBlock) (hl : w'.ownsRow B 3 1 lv' left'.length (intCells left')) (hv : lv'.ownBlock = lv.ownBlock) : OrdS w1 w' T B lv' tv left' told := by
  refine ⟨h.low.grown hg h.low.size (fun q hq => Nat.le_trans h1B (h.left.lt q hq).1), h.box.grown hg (fun e => by have := (h.left.lt T e).1; omega), hl, ?_, by rw [hv]; exact h.apart⟩
  refine h.told.kept hg ?_
  rcases h.apart with e | e
  · cases hx : tv.ownBlock with
    | none => exact Or.inl rfl
    | some g => exact Or.inr (by rw [e]; simp)
  · exact Or.inr (fun q => e q.symm)
theorem OrdS.tell {w1 wr w5 : World} {T B g cap k : Nat} {lv tv : Value} {left told : List Nat} (h : OrdS w1 wr T B lv tv left told) (hT : T < B) (hT1 : w1.heap.size ≤ T) (ho : w5.ownsRow B 3 1 (.slice (some ⟨g, 0, none⟩) (told.length + 1) cap) (told.length + 1) (intCells told ++ [.int .i64 (k : Int)])) (hg : (wr.alloc (.cells #[.int .i64 (k : Int)] 3)).grownBy w5 tv.ownBlock) (hat : tv.ownBlock = some g ∨ g = wr.heap.size + 1) :
    OrdS w1 (w5.setCell ⟨T, 0, none⟩ (.slice (some ⟨g, 0, none⟩) (told.length + 1) cap)) T B lv (.slice (some ⟨g, 0, none⟩) (told ++ [k]).length cap) left (told ++ [k]) := by
  have hws := h.low.size
  have ho5 := h.told.alloc (.cells #[.int .i64 (k : Int)] 3)
  have hb5 : Below w1.heap.size w1 w5 := (h.low.alloc (by omega) _).grown hg (by simp; omega) (fun q hq => by have := (h.told.lt q hq).1; omega)
  have hx5 : Fw.Box w5 T [tv] := (h.box.below (below_box _ _)).grown hg (fun e => by have := (h.told.lt T e).1; omega)
  have hgB : B ≤ g := (ho.lt g rfl).1
  have hl5 : w5.ownsRow B 3 1 lv left.length (intCells left) := by
    refine (h.left.alloc (.cells #[.int .i64 (k : Int)] 3)).kept hg ?_
    rcases h.apart with e | e
    · exact Or.inl e
    · exact Or.inr e
  refine ⟨?_, by rw [List.length_append]; exact hx5.set 0 _, ?_, ?_, ?_⟩
  · exact ⟨hb5.os, hb5.tape, hb5.output, by simpa [World.setCell] using hb5.size, fun q hq => (Below.heap_setCell _ _ _ _ (show q ≠ T by omega)).trans (hb5.block q hq)⟩
  · exact ownsRow_setCell_below hl5 (a := ⟨T, 0, none⟩) hT _
  · rw [intCells_app, List.length_append]
    exact ownsRow_setCell_below ho (a := ⟨T, 0, none⟩) hT _
  · rcases h.apart with e | e
    · exact Or.inl e
    · refine Or.inr ?_
      simp only [Value.ownBlock]
      rcases hat with q | q
      · rw [← q]; exact e
      · intro e2
        have := (h.left.lt g e2).2
        omega
def lenV : Value → Nat
  | .slice _ n _ => n
  | _ => 0
/-- What Order comes to. -/
def OrdR (f : Flw) (w : World) (e : Ending) (w' : World) : Prop := Below w.heap.size w w' ∧
  ((ordF f = none ∧ ∃ ev, e = .returned (.tuple #[.slice none 0 0, ev]) ∧ AtV w' ev 11) ∨
   (∃ o tv, ordF f = some o ∧ e = .returned (.tuple #[tv, .nilIface]) ∧ w'.ownsRow w.heap.size 3 1 tv o.length (intCells o)))
theorem ord_perm {told left : List Nat} {i x k : Nat} (h : (told ++ left).Perm (List.range k)) (hi : i < left.length) (hx : left[i] = x) : ((told ++ [x]) ++ left.eraseIdx i).Perm (List.range k) := by
  rw [List.append_assoc, ← hx]
  exact (List.Perm.append_left told (erase_perm left i hi)).trans h
theorem ord_step {f : Flw} {told left : List Nat} {i x : Nat} {r : Option (List Nat)} (h : ordL f left.length left told = r) (hf : (left.findIdx? fun k => rdyB f k told) = some i) (hi : i < left.length) (hx : left[i] = x) : ordL f (left.eraseIdx i).length (left.eraseIdx i) (told ++ [x]) = r := by
  rw [← h, List.length_eraseIdx_of_lt hi]
  rw [show ordL f left.length left told = ordL f ((left.length - 1) + 1) left told by rw [Nat.sub_add_cancel (by omega)]]
  conv => rhs; unfold ordL
  rw [hf]
  simp only [List.getD_eq_getElem?_getD, List.getElem?_eq_getElem hi, hx, Option.getD_some]
set_option maxRecDepth 100000 in
set_option maxHeartbeats 3200000 in
theorem order_any (f : Flw) (vi vj vo : Value) (w : World) (h : Fw.FlowRd w f vi vj vo) (hf : Fw.FlwOK f) :
    Calls Tryz.prog 13 #[.agg #[vi, vj, vo]] w fun e w' => OrdR f w e w' := by
  obtain ⟨i0, hi, hz0, hz1, hz2⟩ := info_parts Tryz.infoInt
  obtain ⟨ja, jc, rfl⟩ := row_slice h.jobs
  obtain ⟨J, hJ⟩ : ∃ J, f.jobs.length = J := ⟨_, rfl⟩
  have hJ16 : J ≤ 16 := by rw [← hJ]; exact hf.jl
  rw [hJ] at h ⊢
  obtain ⟨w1, hw1⟩ : ∃ x, w.alloc (.cells #[vi, .slice ja J jc, vo] 27) = x := ⟨_, rfl⟩
  have hB1 : Below w.heap.size w w1 := by rw [← hw1]; exact below_box _ _
  have hs1 : w1.heap.size = w.heap.size + 1 := by rw [← hw1]; simp
  have hF1 : FBox w1 w.heap.size vi (.slice ja J jc) vo := by rw [← hw1]; exact FBox.new _ _ _ _ _
  obtain ⟨w2, hw2⟩ : ∃ x, w1.alloc (.cells #[.slice none 0 0] 49) = x := ⟨_, rfl⟩
  have hB2 : Below w1.heap.size w1 w2 := by rw [← hw2]; exact below_box _ _
  have hs2 : w2.heap.size = w.heap.size + 2 := by rw [← hw2]; simp; omega
  have hX2 : Fw.Box w2 w1.heap.size [.slice none 0 0] := by rw [← hw2]; exact Fw.Box.new w1 _ _ _ rfl
  have HB1 := Hid.mk hB1
  have HB2 := Hid.mk hB2
  have HX2 := Hid.mk hX2
  have HF1 := Hid.mk hF1
  have HH := Hid.mk (And.intro (h.below hB1) hf)
  have HJ := Hid.mk hJ
  have HS1 := Hid.mk hs1
  have HS2 := Hid.mk hs2
  have g1 := (hF1.below hB2).2.1
  have hmf : ∀ (fn : Fn) (first cap : Array Value) (w : World), (Instr.makeFunc fn first cap).run Tryz.prog w = .ok (.func fn first cap) w := fun _ _ _ _ => rfl
  clear h hf hJ hB1 hB2 hX2 hF1 hs1 hs2
  go_enter Tryz.func13, Tryz.ntmps13
  go_wp2
  go_loopw [4, 11] (fun l i wr => ∃ k : Nat, k ≤ J ∧ i = .int .i64 k ∧ wr.ownsRow w2.heap.size 3 1 l k (intCells (List.range k)) ∧ Below w2.heap.size w2 wr) (fun _ i _ => J - (intOf i).toNat)
  case atStart => exact ⟨0, Nat.zero_le _, rfl, World.ownsRow_nil _ _ _ _, Below.refl _ _⟩
  case round =>
    obtain ⟨k, hk, rfl, hown, hnx⟩ := hrel
    obtain ⟨la, lc, rfl⟩ := own_slice hown
    have HX := Hid.mk (And.intro hown hnx)
    have hws := hnx.size
    by_cases hlt : k < J
    · have HT := Hid.mk (show intCells (List.range k) ++ [.int .i64 ((k : Nat) : Int)] = intCells (List.range (k + 1)) by rw [List.range_succ, intCells_app])
      clear hown hnx
      go_wp2_with (first | (at_builtin; refine wpList_append_own _ rfl _ _ 49 rfl w2.heap.size 3 i0 (.int .i64 0) 1 8 Tryz.underlying49 hi hz0 hz1 hz2 rfl (by decide) _ _ _ rfl (HX.out.1.alloc _) ⟨wr.heap.size, 0, none⟩ 1 1 [.int .i64 (k : Int)] rfl rfl (news1 _ _ _ _ rfl) (one1i _ _) ?c3 ?c4 ?c5 ?_))
      case c3 => unfold maxLen; omega
      case c4 => omega
      case c5 => simp; omega
      intro v' w5 hown' hgrow _
      have hbl5 : Below w2.heap.size w2 w5 := (HX.out.2.alloc (by omega) _).grown hgrow (by simp; omega) (fun q hq => (HX.out.1.lt q hq).1)
      rw [HT.out] at hown'
      have HF := Hid.mk (And.intro hown' hbl5)
      clear hown' hgrow hbl5
      go_wp2
      go_roundw
      case rel => exact ⟨k + 1, by omega, by go_num, HF.out.1, HF.out.2⟩
      case measure => simp [intOf]; omega
    · obtain rfl : k = J := by omega
      have hO : OrdS w1 wr w1.heap.size w2.heap.size (.slice la k lc) (.slice none 0 0) (List.range k) [] := by
        refine ⟨HB2.out.trans (hnx.mono HB2.out.size), HX2.out.below hnx, ?_, World.ownsRow_nil _ _ _ _, ?_⟩
        · rw [List.length_range]; exact hown
        · cases hx : (Value.slice la k lc).ownBlock with
          | none => exact Or.inl rfl
          | some g => exact Or.inr (by simp [Value.ownBlock])
      have HO := Hid.mk hO
      have HOF : Hid (ordL f (List.range k).length (List.range k) [] = ordF f) := Hid.mk (by rw [List.length_range, ← HJ.out]; rfl)
      clear hown hnx hO HX
      go_wp2
      obtain ⟨wa, hwa⟩ : ∃ x, x = wr := ⟨_, rfl⟩
      rw [← hwa] at HO ⊢
      clear hwa
      go_loopw [4] (fun lv wr => ∃ (left told : List Nat) (tv : Value), OrdS w1 wr w1.heap.size w2.heap.size lv tv left told ∧ (told ++ left).Perm (List.range k) ∧ ordL f left.length left told = ordF f) (fun lv _ => lenV lv)
      case atStart => exact ⟨List.range k, [], _, HO.out, by simp, HOF.out⟩
      case round =>
        obtain ⟨left, told, tv, hS, hperm, hord⟩ := hrel
        obtain ⟨la, lc, rfl⟩ := own_slice hS.left
        have HS := Hid.mk hS
        have HP := Hid.mk hperm
        have HD := Hid.mk hord
        have hbw : Below w.heap.size w wr := HB1.out.trans (hS.low.mono HB1.out.size)
        have hll : left.length ≤ 16 := by
          have := hperm.length_eq
          rw [List.length_append, List.length_range] at this
          omega
        have htl : told.length ≤ 16 := by
          have := hperm.length_eq
          rw [List.length_append, List.length_range] at this
          omega
        have hmem : ∀ q, q ∈ told ∨ q ∈ left → q < f.jobs.length := fun q hq => by
          rw [HJ.out, ← List.mem_range, ← hperm.mem_iff, List.mem_append]
          exact hq
        have hFr := HF1.out.below hS.low
        have hT := hS.box.cell 0 (v := tv) rfl
        have hlS := hS.low.size
        by_cases hlt : 0 < left.length
        · have HI := Hid.mk (idx_order f vi (.slice ja k jc) vo tv (.slice la left.length lc) told left w.heap.size w1.heap.size wr (HH.out.1.below hS.low) HH.out.2 hFr hT (IntsV.of hS.told) (fun q hq => hmem q (Or.inl hq)) (by omega) (IntsV.of hS.left) (fun q hq => hmem q (Or.inr hq)) (by omega))
          have HM := Hid.mk hmem
          have hltI : (0 : Int) < (left.length : Int) := by omega
          clear hS hperm hord hbw hmem hFr hT
          go_wp2_with (first | (go_at_call 22; fail))
          refine HI.out.mono ?_
          rintro e4 w4 ⟨r, rfl, hr, hb4⟩
          have HS4 := Hid.mk (HS.out.below hb4)
          clear hb4 HI
          rcases hr with ⟨i, rfl, hfi⟩ | ⟨rfl, hfi⟩
          · have hiI : ¬ ((i : Int) < 0) := by omega
            obtain ⟨hil, -, -⟩ := List.findIdx?_eq_some_iff_getElem.1 hfi
            have HSd := Hid.mk (HS4.out.below ((Below.refl _ w4).drew))
            obtain ⟨g, gc, e0, hgB, hgl, hgi⟩ := ints_of HSd.out.left hlt
            simp only [Value.slice.injEq, true_and] at e0
            obtain ⟨rfl, rfl⟩ := e0
            have cG := hgi i hil
            rw [Nat.zero_add] at cG
            have cT := HSd.out.box.cell 0 (v := tv) rfl
            have lT := HSd.out.box.lt
            obtain ⟨x, hx⟩ : ∃ x, left[i] = x := ⟨_, rfl⟩
            rw [hx] at cG
            have hiL : (i : Int) < (left.length : Int) := by omega
            obtain ⟨ta, tc, rfl⟩ := own_slice HSd.out.told
            have hsd : w2.heap.size ≤ w4.drew.heap.size := by have := HSd.out.low.size; have := lT; have := HS1.out; have := HS2.out; omega
            have cA : (w4.alloc (.cells #[.int .i64 (x : Int)] 3)).drew.cell? ⟨w1.heap.size, 0, none⟩ = some (.slice ta told.length tc) := by
              show (w4.drew.alloc (.cells #[.int .i64 (x : Int)] 3)).cell? ⟨w1.heap.size, 0, none⟩ = _
              rw [World.cell?_alloc_lt _ _ ⟨w1.heap.size, 0, none⟩ lT]
              exact cT
            have HX := Hid.mk hx
            have HFI := Hid.mk hfi
            clear hgi hx hfi HS HS4
            go_wp2_with fail
            go_region_law (first | (refine step_append_lies _ (by rfl) _ _ _ (by rfl) w2.heap.size 3 i0 _ 1 8 Tryz.underlying49 hi hz0 hz1 hz2 rfl (by decide) (.slice ta told.length tc) told.length _ (by rfl) (HSd.out.told.alloc _) ⟨w4.drew.heap.size, 0, none⟩ 1 1 [.int .i64 (x : Int)] (by rfl) (by rfl) (news1 _ _ _ _ rfl) (one1i _ _) (by decide) (by unfold maxLen; omega) (by omega) (Nat.le_trans hsd (by simp)) (w4.drew.heap.size + 1) (by simp) ?_; intro gg cap w5 hown5 hgrow5 hat5 hlt5; have X5 := (HSd.out.box.below (below_box _ (.cells #[.int .i64 (x : Int)] 3))).grown hgrow5 (fun e => by have := (HSd.out.told.lt _ e).1; have := HS1.out; have := HS2.out; omega); have c5 := X5.cell 0 (v := .slice ta told.length tc) rfl; have f5 := X5.fz 0; have HO5 := Hid.mk (HSd.out.tell (by have := HS1.out; have := HS2.out; omega) (Nat.le_refl _) hown5 hgrow5 hat5); clear hown5 hgrow5 hat5 X5))
            all_goals clear c5 f5
            all_goals
              have HDL := Hid.mk (del_any w2.heap.size i (.slice (some ⟨g, 0, none⟩) left.length lc) left _ hil (by omega) HO5.out.left)
            all_goals go_wp2_with (first | (go_at_call 25; fail))
            all_goals refine HDL.out.mono ?_
            all_goals rintro e6 w6 ⟨lv6, rfl, ho6, hv6, hg6⟩
            all_goals have HO6 := Hid.mk (HO5.out.del (by have := HS1.out; have := HS2.out; omega) (by have := HS1.out; have := HS2.out; omega) hg6 ho6 hv6)
            all_goals obtain ⟨la6, lc6, rfl⟩ := own_slice ho6
            all_goals clear ho6 hv6 hg6 HDL HO5
            all_goals go_wp2
            all_goals go_roundw
            all_goals first
              | exact ⟨left.eraseIdx i, told ++ [x], _, HO6.out, ord_perm HP.out hil HX.out, ord_step HD.out HFI.out hil HX.out⟩
              | (simp only [lenV]; rw [List.length_eraseIdx_of_lt hil]; omega)
          · have HO2 : Hid (ordF f = none) := Hid.mk (by
              rw [← HD.out, show left.length = (left.length - 1) + 1 by omega]
              unfold ordL
              rw [hfi])
            obtain ⟨g, gc, e0, hgB, hgl, hgi⟩ := ints_of HS4.out.left hlt
            simp only [Value.slice.injEq, true_and] at e0
            obtain ⟨rfl, rfl⟩ := e0
            have hx16 : left[0] < f.jobs.length := HM.out _ (Or.inr (List.getElem_mem hlt))
            obtain ⟨b, c, e1, hcap, hb, ao, ai, ac, hra, -, -, -⟩ := job_at (HH.out.1.below HS4.out.low) hx16
            simp only [Value.slice.injEq] at e1
            obtain ⟨rfl, -, rfl⟩ := e1
            have q1 := (HF1.out.below HS4.out.low).2.1
            have q2 := hgi 0 hlt
            have q3 : w4.cell? ⟨b, left[0] * 15 + 0, none⟩ = some (.int .i64 (f.jobs[left[0]].at_ : Nat)) := hra 0 _ rfl
            rw [Nat.add_zero] at q2 q3
            have hxk : ((left[0] : Nat) : Int) < (k : Int) := by have := HJ.out; omega
            generalize f.jobs[left[0]].at_ = pl at *
            obtain ⟨x, hx⟩ : ∃ x, left[0] = x := ⟨_, rfl⟩
            rw [hx] at q2 q3 hxk
            have HAll : Hid (∀ V, Below w4.heap.size w4 V → V.cell? ⟨w.heap.size, 1, none⟩ = some (.slice (some ⟨b, 0, none⟩) k jc) ∧ V.cell? ⟨g, 0, none⟩ = some (.int .i64 (x : Int)) ∧ V.cell? ⟨b, x * 15, none⟩ = some (.int .i64 (pl : Nat))) := Hid.mk fun V hV => ⟨cell_below q1 hV, cell_below q2 hV, cell_below q3 hV⟩
            have G0 := Hid.mk (HAll.out w4.drew (Below.refl _ w4).drew)
            have HB4 : Hid (Below w.heap.size w w4) := Hid.mk (HB1.out.trans (HS4.out.low.mono HB1.out.size))
            have HAT : Hid (∀ V, Calls Tryz.prog 24 #[.int .i64 11, .int .i64 (pl : Nat)] V fun e w' => ∃ p, e = .returned (.iface 82 (.pointer (some ⟨p, 0, none⟩))) ∧ AtV w' (.iface 82 (.pointer (some ⟨p, 0, none⟩))) 11 ∧ Below V.heap.size V w') := Hid.mk fun V => at_any 11 pl V
            clear hgi q1 q2 q3 hra hx hfi HS HS4
            go_wp2_with fail
            go_region_held3 (fun V => V.cell? ⟨w.heap.size, 1, none⟩ = some (.slice (some ⟨b, 0, none⟩) k jc) ∧ V.cell? ⟨g, 0, none⟩ = some (.int .i64 (x : Int)) ∧ V.cell? ⟨b, x * 15, none⟩ = some (.int .i64 (pl : Nat))) (first | exact G0.out | exact G1.out) (first | (go_at_call 24; refine (HAT.out _).mono ?_; rintro e5 w5 ⟨p, rfl, ha5, hb5⟩; have HB5 := Hid.mk (show Below w4.heap.size w4 w5 from ((Below.refl _ w4).drew).trans hb5); have G1 := Hid.mk (HAll.out w5 HB5.out); have HA5 := Hid.mk ha5; clear ha5 hb5))
            all_goals go_wp2
            all_goals refine bodyPost_ret (v := .tuple #[.slice none 0 0, .iface 82 (.pointer (some ⟨p, 0, none⟩))]) (by simp [results, Tryz.results13, go_sem]) rfl ?_
            all_goals exact ⟨HB4.out.trans (HB5.out.mono HB4.out.size), Or.inl ⟨HO2.out, _, rfl, HA5.out⟩⟩
        · have hlI : ¬ (0 : Int) < (left.length : Int) := by omega
          have hl0 : left = [] := List.length_eq_zero_iff.1 (by omega)
          have HO2 : Hid (ordF f = some told) := Hid.mk (by rw [← hord, hl0]; rfl)
          have hT2 := hS.box.cell 0 (v := tv) rfl
          have HBw := Hid.mk hbw
          obtain ⟨ta, tc, rfl⟩ := own_slice hS.told
          clear hS hperm hord hbw hmem hFr hT
          go_wp2
          refine bodyPost_ret (v := .tuple #[.slice ta told.length tc, .nilIface]) (by simp [results, Tryz.results13, go_sem]) rfl ?_
          exact ⟨HBw.out, Or.inr ⟨told, _, HO2.out, rfl, own_mono (by have := HS2.out; omega) HS.out.told⟩⟩
end Go.Proofs.YtfifbnopgpffkaaGreatDoor.Pl
