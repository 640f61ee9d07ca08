import Derived.Test.YtjceppinfjbegaaGreatDoorWalkP
set_option linter.unusedSimpArgs false
set_option linter.unusedVariables false
namespace Go.Proofs.YtjceppinfjbegaaGreatDoor
open Go.RowKit

theorem news_one (w : World) (v : Value) (t : TypeId) (H : Nat) (hH : w.heap.size = H) : ∀ j u, [v][j]? = some u → ((w.alloc (.cells #[v] t)).drew).cell? ((⟨H, 0, none⟩ : Addr).add j) = some u := by
  intro j u hj
  match j, hj with
  | 0, hj => simp at hj; subst hj; subst hH; simp [Addr.add]

theorem owns_form {w : World} {B : Nat} {e : TypeId} {z : Nat} {v : Value} {n : Nat} {xs : List Value} (h : w.ownsRow B e z v n xs) : ∃ a c, v = .slice a n c := by
  obtain ⟨-, ⟨rfl, hn⟩ | ⟨g, cp, cur, rfl, -⟩⟩ := h
  · exact ⟨none, 0, by rw [hn]⟩
  · exact ⟨_, _, rfl⟩

set_option maxRecDepth 100000 in
set_option maxHeartbeats 1600000 in
theorem print_ok (vc vr : Value) (cs : List Cl) (rs : List (List Vl)) (w : World) (hc : ColsIs w vc cs) (hr : RowsIs w vr rs) (hE : Env w) (hg : rightB cs rs = true) :
    Calls Tryz.prog 58 #[.agg #[vc, vr]] w fun e w' => e = .returned (.tuple #[.string ⟨(printL cs rs).toArray⟩, .nilIface]) ∧ Below w.heap.size w w' := by
  obtain ⟨i0, hi, hz0, hz1, hz2⟩ := info_parts Tryz.infoStr
  have hc0 := hc.below (below_box w (.cells #[vc, vr] 36))
  have hr0 := hr.below (below_box w (.cells #[vc, vr] 36))
  have HE := Hid.mk hE
  have HE0 := Hid.mk (hE.below (below_box w (.cells #[vc, vr] 36)))
  have hR := right_any vc vr cs rs _ hc0 hr0
  rw [hg] at hR
  have hG := right_cols hg
  have hlen := rightCols_len hG.1
  have HCE := Hid.mk (cols_each hG.1)
  have h60 := hG.2.1
  have HRE := Hid.mk hG.2.2
  obtain ⟨ca, cc, rfl, -, -, hcc⟩ := hc
  obtain ⟨ra, rc, rfl, hrr⟩ := hr
  rcases hcc with hcc | ⟨cb, co, rfl, hcb, hcat⟩
  · rw [hcc] at hlen; simp at hlen
  have HR := Hid.mk hR
  have HC := Hid.mk hcat
  have HRR := Hid.mk hrr
  clear hR hg hG hE hc0 hr0 hcat hrr
  go_enter Tryz.func58, Tryz.ntmps58
  go_wp2_with (go_at_call 48; refine HR.out.mono ?_; rintro e w1 ⟨rfl, hb1⟩; obtain ⟨hc1, hf1⟩ := bcell hb1)
  have s1 : w.heap.size < w1.heap.size := by have := hb1.size; simp at this; omega
  have t0 : w1.cell? ⟨w.heap.size, 0, none⟩ = some (.slice (some ⟨cb, co, none⟩) cs.length cc) := (hc1 _ _ (by simp)).trans (by simp)
  have t1 : w1.cell? ⟨w.heap.size, 1, none⟩ = some (.slice ra rs.length rc) := (hc1 _ _ (by simp)).trans (by simp)
  have b1 := bel_then (below_box w (.cells #[.slice (some ⟨cb, co, none⟩) cs.length cc, .slice ra rs.length rc] 36)) hb1
  have HE1 := Hid.mk (HE0.out.below hb1)
  have HC1 := Hid.mk (HC.out.below b1 hcb)
  have B1 := Hid.mk b1
  clear hc1 hf1 hb1 b1 HR HE0
  have cb1 : cb < w1.heap.size := by omega
  go_loopw [4, 20] (fun v i wr => ∃ k : Nat, k ≤ cs.length ∧ i = .int .i64 k ∧ wr.ownsRow w1.heap.size 9 1 v k (((cs.map headB).take k).map Value.string) ∧ Below w1.heap.size w1 wr) (fun _ i _ => cs.length - (intOf i).toNat)
  case atStart => exact ⟨0, Nat.zero_le _, rfl, World.ownsRow_nil _ _ _ _, Below.refl _ _⟩
  case round =>
    obtain ⟨k, hk, rfl, hown, hnx⟩ := hrel
    have HOWN := Hid.mk hown
    obtain ⟨va, vcap, rfl⟩ := owns_form hown
    clear hown
    by_cases hlt : k < cs.length
    · obtain ⟨e1, e2⟩ := HC1.out k hlt
      have d1 := (hnx.cell (p := ⟨cb, co + k * 2, none⟩) cb1).trans e1
      have d2 := (hnx.cell (p := ⟨cb, co + k * 2 + 1, none⟩) cb1).trans e2
      have hce := HCE.out _ (List.getElem_mem hlt)
      have hEr := HE1.out.below hnx
      have k1 := hEr.k1
      have k2 := hEr.k2
      have hEs := hEr.size 0 (by simp)
      clear e1 e2 hEr
      have hnz := hnx.size
      have hown2 := HOWN.out
      have hbo : ∀ q, (Value.slice va k vcap).ownBlock = some q → w1.heap.size ≤ q ∧ q < wr.heap.size := fun q hq => hown2.lt q hq
      rcases hce.2 with hkd | hkd
      · rw [hkd] at d2
        have hhb : headB cs[k] = cs[k].1 ++ ⟨#[58]⟩ ++ ⟨#[105, 110, 116]⟩ := by simp [headB, kw, hkd]
        have HHB := Hid.mk hhb
        clear hhb hkd
        have n1 : ¬ 9223372036854775807 < cs[k].1.size + 1 := by have := hce.1; omega
        have n2 : ¬ 9223372036854775807 < cs[k].1.size + 1 + 3 := by have := hce.1; omega
        have lb0 := World.new_ne wr ⟨0, 1, none⟩ k1
        have HNW := Hid.mk (news_one (wr.alloc (.cells #[.string cs[k].1, .int .i64 1] 60)) (.string (cs[k].1 ++ ⟨#[58]⟩ ++ ⟨#[105, 110, 116]⟩)) 9 (wr.heap.size + 1) (by simp))
        have HO2 := Hid.mk (((HOWN.out.alloc (.cells #[.string cs[k].1, .int .i64 1] 60)).alloc (.cells #[.string (cs[k].1 ++ ⟨#[58]⟩ ++ ⟨#[105, 110, 116]⟩)] 9)).drew)
        go_wp2_with fail
        go_region_held3 (fun w' => w'.cell? ⟨wr.heap.size, 0, none⟩ = some (.string cs[k].1) ∧ w'.cell? ⟨wr.heap.size, 1, none⟩ = some (.int .i64 1) ∧ w'.cell? ⟨0, 1, none⟩ = some (.string ⟨#[105, 110, 116]⟩))
          (first
            | go_keep
            | (go_split_ands
               refine ⟨?_, ?_, ?_⟩
               · (rw [hgrow.cell_far _ (by simp; omega) (by intro e; have := hbo _ e.symm; simp at this)]; assumption)
               · (rw [hgrow.cell_far _ (by simp; omega) (by intro e; have := hbo _ e.symm; simp at this)]; assumption)
               · (rw [hgrow.cell_far _ (by simp <;> omega) (fun e => absurd (hbo _ e.symm).1 (by show ¬ w1.heap.size ≤ 0; omega))]; assumption)))
          ((go_loud (refine step_append_lies _ (by rfl) _ _ _ (by rfl) w1.heap.size 9 i0 _ 1 16 Tryz.underlying22 hi hz0 hz1 hz2 rfl (by omega) (.slice va k vcap) k _ (by rfl) HO2.out ⟨wr.heap.size + 1, 0, none⟩ 1 1 [.string (cs[k].1 ++ ⟨#[58]⟩ ++ ⟨#[105, 110, 116]⟩)] (by rfl) (by rfl) HNW.out (by simp [Value.oneCell']) (by omega) (by unfold maxLen; omega) (by omega) (by simp; omega) (wr.heap.size + 1 + 1) (by simp) ?_); intro gg cap w2 hown1 hgrow hat hlt2))
        have hbl : Below w1.heap.size w1 w2 := ((((hnx.alloc hnx.size _).alloc (by have := hnx.size; simp; omega) _).drew).grown hgrow (by have := hnx.size; simp; omega) (fun q hq => (hbo q hq).1))
        clear hat hlt2
        go_wp2
        go_roundw
        case rel => exact ⟨k + 1, by omega, by go_num, by rw [List.take_succ_eq_append_getElem (by simpa using hlt), List.map_append, List.getElem_map, HHB.out]; exact hown1, hbl⟩
        case measure => simp [intOf]; omega
      · rw [hkd] at d2
        have hhb : headB cs[k] = cs[k].1 ++ ⟨#[58]⟩ ++ ⟨#[116, 101, 120, 116]⟩ := by simp [headB, kw, hkd]
        have HHB := Hid.mk hhb
        clear hhb hkd
        have n1 : ¬ 9223372036854775807 < cs[k].1.size + 1 := by have := hce.1; omega
        have n2 : ¬ 9223372036854775807 < cs[k].1.size + 1 + 4 := by have := hce.1; omega
        have lb0 := World.new_ne wr ⟨0, 2, none⟩ k2
        have HNW := Hid.mk (news_one (wr.alloc (.cells #[.string cs[k].1, .int .i64 2] 60)) (.string (cs[k].1 ++ ⟨#[58]⟩ ++ ⟨#[116, 101, 120, 116]⟩)) 9 (wr.heap.size + 1) (by simp))
        have HO2 := Hid.mk (((HOWN.out.alloc (.cells #[.string cs[k].1, .int .i64 2] 60)).alloc (.cells #[.string (cs[k].1 ++ ⟨#[58]⟩ ++ ⟨#[116, 101, 120, 116]⟩)] 9)).drew)
        go_wp2_with fail
        go_region_held3 (fun w' => w'.cell? ⟨wr.heap.size, 0, none⟩ = some (.string cs[k].1) ∧ w'.cell? ⟨wr.heap.size, 1, none⟩ = some (.int .i64 2) ∧ w'.cell? ⟨0, 2, none⟩ = some (.string ⟨#[116, 101, 120, 116]⟩))
          (first
            | go_keep
            | (go_split_ands
               refine ⟨?_, ?_, ?_⟩
               · (rw [hgrow.cell_far _ (by simp; omega) (by intro e; have := hbo _ e.symm; simp at this)]; assumption)
               · (rw [hgrow.cell_far _ (by simp; omega) (by intro e; have := hbo _ e.symm; simp at this)]; assumption)
               · (rw [hgrow.cell_far _ (by simp <;> omega) (fun e => absurd (hbo _ e.symm).1 (by show ¬ w1.heap.size ≤ 0; omega))]; assumption)))
          ((go_loud (refine step_append_lies _ (by rfl) _ _ _ (by rfl) w1.heap.size 9 i0 _ 1 16 Tryz.underlying22 hi hz0 hz1 hz2 rfl (by omega) (.slice va k vcap) k _ (by rfl) HO2.out ⟨wr.heap.size + 1, 0, none⟩ 1 1 [.string (cs[k].1 ++ ⟨#[58]⟩ ++ ⟨#[116, 101, 120, 116]⟩)] (by rfl) (by rfl) HNW.out (by simp [Value.oneCell']) (by omega) (by unfold maxLen; omega) (by omega) (by simp; omega) (wr.heap.size + 1 + 1) (by simp) ?_); intro gg cap w2 hown1 hgrow hat hlt2))
        have hbl : Below w1.heap.size w1 w2 := ((((hnx.alloc hnx.size _).alloc (by have := hnx.size; simp; omega) _).drew).grown hgrow (by have := hnx.size; simp; omega) (fun q hq => (hbo q hq).1))
        clear hat hlt2
        go_wp2
        go_roundw
        case rel => exact ⟨k + 1, by omega, by go_num, by rw [List.take_succ_eq_append_getElem (by simpa using hlt), List.map_append, List.getElem_map, HHB.out]; exact hown1, hbl⟩
        case measure => simp [intOf]; omega
    · have hke : k = cs.length := by omega
      subst hke
      obtain ⟨wb, rfl⟩ : ∃ x, x = wr := ⟨_, rfl⟩
      have hfull : (cs.map headB).take cs.length = cs.map headB := List.take_of_length_le (by simp)
      have hown := HOWN.out
      rw [hfull] at hown
      have HOW2 := Hid.mk hown
      have HBR := Hid.mk (bel_then B1.out hnx)
      have HER := Hid.mk (HE1.out.below hnx)
      have hnz := hnx.size
      have t1' := (hnx.cell (p := ⟨w.heap.size, 1, none⟩) s1).trans t1
      have hLN : ∀ (o : Obj), Calls Tryz.prog 99 #[.slice va cs.length vcap] (wb.alloc o) fun e w' => e = .returned (.string ⟨(headL cs).toArray⟩) ∧ Below (wb.alloc o).heap.size (wb.alloc o) w' := fun o => by
        have := line_any (.slice va cs.length vcap) (cs.map headB) w1.heap.size (wb.alloc o) (by rw [List.length_map]; exact HOW2.out.alloc o) (by intro e; have := congrArg List.length e; simp at this; rw [this] at hlen; simp at hlen) (by simp; omega) (by
          intro x hx
          rw [List.mem_map] at hx
          obtain ⟨c, hc, rfl⟩ := hx
          exact head_size (HCE.out c hc).1)
        rw [List.map_map] at this
        exact this
      have HLN := Hid.mk hLN
      clear hLN hown hfull HOWN HOW2 t0 t1 hnx HE1 HC1 HC
      go_wp2_with (go_at_call 99; refine (HLN.out _).mono ?_; rintro e w2 ⟨rfl, hb2⟩)
      have s2 : wb.heap.size < w2.heap.size := by have := hb2.size; simp at this; omega
      have t2 := (hb2.cell (p := ⟨w.heap.size, 1, none⟩) (by show w.heap.size < (wb.alloc _).heap.size; simp; omega)).trans ((World.cell?_alloc_past _ _ _ (by show w.heap.size < _; omega)).trans t1')
      have hW := Tryz.Builder_WriteString wb.heap.size wb.heap.size [] ⟨(headL cs).toArray⟩ w2 (builder_below (builder_new wb) hb2) (by have := headL_len hlen.2 (fun c hc => (HCE.out c hc).1); simp [ByteArray.size]; omega) (Nat.le_of_lt s2)
      have HW := Hid.mk hW
      have HB2 := Hid.mk (bel_alloc HBR.out hb2)
      clear hW HLN hb2 t1'
      refine HW.out.mono ?_
      rintro e w3 ⟨rfl, hB3, hb3⟩
      have hs3 := hb3.size
      have t3 := (hb3.cell (p := ⟨w.heap.size, 1, none⟩) (by show w.heap.size < wb.heap.size; omega)).trans t2
      have hB3' : Lib.IsBuilder 141 5 wb.heap.size wb.heap.size (Lib.byteCells (headL cs ++ ([] : List (List Vl)).flatMap rowL)) w3 := by
        rw [List.flatMap_nil, List.append_nil]; exact Or.inr hB3
      have HB3 := Hid.mk hB3'
      have HBL3 := Hid.mk (HB2.out.trans (hb3.mono (by omega)))
      clear hB3 hB3' hb3 t2 HW
      go_wp2
      go_loopw [42] (fun i wx => ∃ k : Nat, k ≤ rs.length ∧ i = .int .i64 k ∧ Lib.IsBuilder 141 5 wb.heap.size wb.heap.size (Lib.byteCells (headL cs ++ (rs.take k).flatMap rowL)) wx ∧ Below wb.heap.size w3 wx) (fun i _ => rs.length - (intOf i).toNat)
      case atStart => exact ⟨0, Nat.zero_le _, rfl, HB3.out, Below.refl _ _⟩
      case round =>
        obtain ⟨k, hk, rfl, hBx, hnx⟩ := hrel
        obtain ⟨wx, rfl⟩ : ∃ x, x = wr := ⟨_, rfl⟩
        have HBX := Hid.mk hBx
        have HWX := Hid.mk (HBL3.out.trans (hnx.mono (by omega)))
        have hbx := builder_lt hBx
        clear hBx
        by_cases hlt : k < rs.length
        · rcases HRR.out with hrr | ⟨rb, ro, hra, hrb, hrat⟩
          · rw [hrr] at hlt; simp at hlt
          subst hra
          obtain ⟨u, hu, hrow⟩ := hrat k hlt
          have hu' := (HWX.out.cell (p := ⟨rb, ro + k, none⟩) hrb).trans hu
          have hok := HRE.out _ (List.getElem_mem hlt)
          have hvl := rowOK_len _ _ hok
          have hve := rowOK_each _ _ hok
          obtain ⟨a3, c3, rfl, -, hrow⟩ := hrow
          have hrl := rowL_len (vs := rs[k]) (by omega) hve
          have hsn : (rs.take (k + 1)).flatMap rowL = (rs.take k).flatMap rowL ++ rowL rs[k] := by
            rw [List.take_succ_eq_append_getElem hlt, List.flatMap_append]; simp
          have htl := rows_len (rs.take k) (fun r hr => by
            have hr' := List.mem_of_mem_take hr
            have hok' := HRE.out r hr'
            have := rowOK_len _ _ hok'
            exact rowL_len (by omega) (rowOK_each _ _ hok'))
          have hhl := headL_len hlen.2 (fun c hc => (HCE.out c hc).1)
          have htk : (rs.take k).length ≤ 60 := by rw [List.length_take]; omega
          have HSN := Hid.mk hsn
          have HTL := Hid.mk htl
          have HVE := Hid.mk hve
          clear hsn htl hu hok hve
          rcases hrow with hrow | ⟨vb, vo, rfl, hvb, hvat⟩
          · rw [hrow] at hvl; simp at hvl; omega
          have HVAT := Hid.mk (hvat.below HWX.out hvb)
          have hvbx : vb < wx.heap.size := by have := HWX.out.size; omega
          have hvlc := Hid.mk hvl
          clear hvat hvl
          have hm6 : rs[k].length ≤ 6 := by have := hvlc.out; omega
          have hm1 : 1 ≤ rs[k].length := by have := hvlc.out; omega
          generalize hvs : rs[k] = vs at *
          clear hvs
          go_wp2
          go_loopw [10, 48] (fun v i wy => ∃ j : Nat, j ≤ vs.length ∧ i = .int .i64 j ∧ wy.ownsRow wx.heap.size 9 1 v j (((vs.map textB).take j).map Value.string) ∧ Below wx.heap.size wx wy) (fun _ i _ => vs.length - (intOf i).toNat)
          case atStart => exact ⟨0, Nat.zero_le _, rfl, World.ownsRow_nil _ _ _ _, Below.refl _ _⟩
          case round =>
            obtain ⟨j, hj, rfl, hown, hny⟩ := hrel
            obtain ⟨wy, rfl⟩ : ∃ x, x = wr := ⟨_, rfl⟩
            have HOWN := Hid.mk hown
            obtain ⟨va', vcap', rfl⟩ := owns_form hown
            have hyz := hny.size
            clear hown
            by_cases hjt : j < vs.length
            · obtain ⟨e1, e2, e3⟩ := HVAT.out j hjt
              have d1 := (hny.cell (p := ⟨vb, vo + j * 3, none⟩) hvbx).trans e1
              have d2 := (hny.cell (p := ⟨vb, vo + j * 3 + 1, none⟩) hvbx).trans e2
              have d3 := (hny.cell (p := ⟨vb, vo + j * 3 + 2, none⟩) hvbx).trans e3
              clear e1 e2 e3
              have htx := text_len (HVE.out _ (List.getElem_mem hjt))
              have HVA := Hid.mk (value_any vs[j].1 vs[j].2.1 vs[j].2.2 (wy.alloc (.cells #[.int .i64 vs[j].1, .int .i64 vs[j].2.1, .string vs[j].2.2] 24)) (by omega) (by omega) (by omega) (((HE.out.below HWX.out).below hny).below (below_box _ _)))
              go_wp2_with (first | (go_at_call 100; refine HVA.out.mono ?_; rintro e w5 ⟨rfl, hb5⟩) | (at_builtin; refine wpList_append_own _ rfl _ _ 22 rfl wx.heap.size 9 i0 (.string ⟨#[]⟩) 1 16 Tryz.underlying22 hi hz0 hz1 hz2 rfl (by decide) _ _ _ rfl ((owns_below (HOWN.out.alloc _) hb5).alloc _) ⟨w5.heap.size, 0, none⟩ 1 1 [.string (textB vs[j])] rfl rfl ?c1 ?c2 ?c3 ?c4 ?c5 ?_))
              case c1 =>
                intro q u hq
                match q, hq with
                | 0, hq => simp at hq; subst hq; simp [Addr.add, textB]
              case c2 => intro u hu; simp at hu; subst hu; rfl
              case c3 => unfold maxLen; omega
              case c4 => omega
              case c5 => have := hb5.size; simp at this ⊢; omega
              · intro v' w6 hown' hgrow _
                have hbl : Below wx.heap.size wx w6 := (bel_box (bel_alloc hny hb5) _).grown hgrow (by have := hb5.size; simp at this ⊢; omega) (fun q hq => (HOWN.out.lt q hq).1)
                go_wp2
                go_roundw
                case rel => exact ⟨j + 1, by omega, by go_num, by rw [List.take_succ_eq_append_getElem (by simpa using hjt), List.map_append, List.getElem_map]; simpa using hown', hbl⟩
                case measure => simp [intOf]; omega
            · have hje : j = vs.length := by omega
              subst hje
              have hown := HOWN.out
              rw [List.take_of_length_le (by simp)] at hown
              have hLN := line_any (.slice va' vs.length vcap') (vs.map textB) wx.heap.size wy (by rw [List.length_map]; exact hown) (by intro e; have := congrArg List.length e; simp at this; rw [this] at hm1; simp at hm1) (by simp; omega) (by
                intro x hx
                rw [List.mem_map] at hx
                obtain ⟨v, hv, rfl⟩ := hx
                have := (text_len (HVE.out v hv)).1
                show (valueL v.1 v.2.1 v.2.2.data.toList).toArray.size ≤ 1000
                simp
                omega)
              rw [List.map_map] at hLN
              have HLN : Hid (Calls Tryz.prog 99 #[.slice va' vs.length vcap'] wy fun e w' => e = .returned (.string ⟨(rowL vs).toArray⟩) ∧ Below wy.heap.size wy w') := hLN
              clear hLN hown
              go_wp2_with (go_at_call 99; refine HLN.out.mono ?_; rintro e w5 ⟨rfl, hb5⟩)
              have hs5 := hb5.size
              have hWR := Tryz.Builder_WriteString wb.heap.size wb.heap.size (Lib.byteCells (headL cs ++ (rs.take k).flatMap rowL)) ⟨(rowL vs).toArray⟩ w5 (builder_below (builder_below HBX.out hny) hb5) (by have h1 := HTL.out; rw [Lib.byteCells_length, List.length_append]; show _ + _ + (rowL vs).toArray.size ≤ _; rw [List.size_toArray]; omega) (by omega)
              refine hWR.mono ?_
              rintro e w6 ⟨rfl, hB6, hb6⟩
              have hB6' : Lib.IsBuilder 141 5 wb.heap.size wb.heap.size (Lib.byteCells (headL cs ++ (rs.take (k + 1)).flatMap rowL)) w6 := by
                rw [HSN.out, ← List.append_assoc, Lib.byteCells_append]; exact Or.inr hB6
              have HB6 := Hid.mk hB6'
              have hbl : Below wb.heap.size w3 w6 := ((hnx.trans (hny.mono (by omega))).trans (hb5.mono (by omega))).trans hb6
              clear hB6 hB6' hWR
              go_wp2
              go_roundw
              case rel => exact ⟨k + 1, by omega, by go_num, HB6.out, hbl⟩
              case measure => simp [intOf]; omega
        · have hke : k = rs.length := by omega
          subst hke
          have hB := HBX.out
          rw [List.take_length] at hB
          have HST := Hid.mk (Tryz.Builder_String_any wb.heap.size wb.heap.size (headL cs ++ rs.flatMap rowL) wx hB (by omega))
          clear hB
          go_wp2_with (go_at_call 101; refine HST.out.mono ?_; rintro e w5 ⟨rfl, hb5⟩)
          go_ret2
          exact ⟨rfl, HWX.out.trans (hb5.mono (by omega))⟩
end Go.Proofs.YtjceppinfjbegaaGreatDoor

