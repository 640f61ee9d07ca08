import Derived.Test.YtedflhiflomoeaaGreatDoorRefW
import Derived.Deep.AppendLies
import Derived.Deep.RegionLaw
import Derived.Deep.Cut
import Derived.Deep.DeepCutAuto
set_option linter.unusedSimpArgs false
set_option linter.unusedVariables false
namespace Go.Proofs.YtedflhiflomoeaaGreatDoor
open Go.RowKit

set_option maxRecDepth 100000 in
set_option maxHeartbeats 12800000 in
theorem bodyr_e (at_ : Nat) (outs : List By) (retry : Int) (vo : Value) (K R : Nat) (ts : List Tk) (w : World) (h : RF w R ts none) (hK : Box w K [.int .i64 (at_ : Nat), .int .i64 0, vo, .slice none 0 0, .slice none 0 0, .string ⟨#[]⟩, .string ⟨#[]⟩, .int .i64 0, .int .i64 0, .string ⟨#[]⟩, .string ⟨#[]⟩, .int .i64 0, .int .i64 0, .string ⟨#[]⟩, .int .i64 retry]) (hKR : R < K) (hcd : codeU (textT ts) 9 = 7) :
    Calls Tryz.prog 32 #[.pointer (some ⟨R, 0, none⟩), .pointer (some ⟨K, 0, none⟩)] w fun e w' => e = .returned (.tuple #[]) ∧ BodyQ (bodyP at_ outs retry ts) vo R K w w' := by
  obtain ⟨i0, hi, hz0, hz1, hz2⟩ := info_parts Tryz.infoStr
  have hRB := h.lt
  have hKB := hK.lt
  have HCD := Hid.mk hcd
  clear hcd
  have E0 := Hid.mk (codeU_is ts)
  have HSP := Hid.mk (split_verbs w h.env)
  have S : Hid (SB w R K w (.ok ts) [.int .i64 (at_ : Nat), .int .i64 0, vo, .slice none 0 0, .slice none 0 0, .string ⟨#[]⟩, .string ⟨#[]⟩, .int .i64 0, .int .i64 0, .string ⟨#[]⟩, .string ⟨#[]⟩, .int .i64 0, .int .i64 0, .string ⟨#[]⟩, .int .i64 retry]) := Hid.mk ⟨h, But2.refl R K w, hK⟩
  clear h hK
  go_enter Tryz.func32, Tryz.ntmps32
  go_wp2_with (go_at_call 26; fail)
  refine HSP.out.mono ?_
  rintro e ws ⟨rfl, hws⟩
  have HCL : Hid (∀ (j : Nat) (h : j < 9), ws.cell? ⟨w.heap.size, j, none⟩ = some (.string (ba ((verbsL[j]?).getD [])))) := Hid.mk (by
    intro j h
    rw [hws]
    have hB : Box (w.alloc (.cells (verbsL.map fun m => Value.string (ba m)).toArray 9)) w.heap.size (verbsL.map fun m => Value.string (ba m)) := Box.new w _ _ _ rfl
    exact hB.cell j (by rw [List.getElem?_map, List.getElem?_eq_getElem (show j < verbsL.length from h)]; rfl))
  have hwl : w.heap.size < ws.heap.size := by rw [hws]; simp
  replace S := Hid.mk (show SB w R K ws _ _ by rw [hws]; exact S.out.alloc _)
  clear HSP hws
  go_wp2
  go_loopw [8] (fun i wr => ∃ j : Nat, j ≤ 9 ∧ i = .int .i64 (j : Nat) ∧ Aside (SB w R K wr (.ok ts) [.int .i64 (at_ : Nat), .int .i64 (codeU (textT ts) j), vo, .slice none 0 0, .slice none 0 0, .string ⟨#[]⟩, .string ⟨#[]⟩, .int .i64 0, .int .i64 0, .string ⟨#[]⟩, .string ⟨#[]⟩, .int .i64 0, .int .i64 0, .string ⟨#[]⟩, .int .i64 retry] ∧ w.heap.size < wr.heap.size ∧ ∀ (j : Nat) (h : j < 9), wr.cell? ⟨w.heap.size, j, none⟩ = some (.string (ba ((verbsL[j]?).getD []))))) (fun i _ => 9 - (intOf i).toNat)
  case atStart => exact ⟨0, Nat.zero_le _, rfl, S.out, hwl, HCL.out⟩
  case round =>
    clear S HCL hwl
    obtain ⟨j, hj, rfl, HH⟩ := hrel
    by_cases hj9 : j < 9
    · have cj := HH.out.2.2 j hj9
      have hvn := verb_ne j hj9
      have hst := codeU_step (textT ts) j
      have hwl := HH.out.2.1
      obtain ⟨V, hV⟩ : ∃ y, (verbsL[j]?).getD [] = y := ⟨_, rfl⟩
      rw [hV] at cj hvn hst
      have HSE := Hid.mk (seex_any V R (.ok ts) wr HH.out.1.x hvn)
      have hjI : (j : Int) < 9 := by omega
      have hj0 : (0 : Int) ≤ (j : Int) := by omega
      cases hb : (textT ts == V) with
      | true =>
        rw [show seeQ V (.ok ts) = true from hb] at HSE
        have hc : codeU (textT ts) (j + 1) = (j : Int) + 1 := by rw [hst, if_pos (by simpa using (eq_of_beq hb).symm)]
        have HC := Hid.mk hc
        generalize ba V = VB at *
        clear hst hb hc hV hvn
        go_wp2_with (go_at_call 10; refine HSE.out.mono ?_; rintro e w2 ⟨rfl, hb2⟩; have S2 := Hid.mk (HH.out.1.below hb2); have HCL2 := Hid.mk (fun (j : Nat) (h : j < 9) => (hb2.cell (p := ⟨w.heap.size, j, none⟩) hwl).trans (HH.out.2.2 j h)); have hw2 := Nat.lt_of_lt_of_le hwl hb2.size; have c1 := S2.out.box.cell 1 rfl; have f1 := S2.out.box.fz 1; have lK := S2.out.box.lt; clear hb2)
        go_roundw
        case rel =>
          refine ⟨j + 1, hj9, by go_num, ?_, ?_, ?_⟩
          · rw [HC.out]; exact S2.out.store hKR 1 _
          · rw [size_set]; exact hw2
          · intro j' h'; rw [World.cell?_of_block (Below.heap_setCell _ _ _ _ (by show w.heap.size ≠ K; omega))]; exact HCL2.out j' h'
        case measure => simp [intOf]; omega
      | false =>
        rw [show seeQ V (.ok ts) = false from hb] at HSE
        have hc : codeU (textT ts) (j + 1) = codeU (textT ts) j := by rw [hst, if_neg (by intro e; rw [← e] at hb; simp at hb)]
        have HC := Hid.mk hc
        generalize ba V = VB at *
        clear hst hb hc hV hvn
        go_wp2_with (go_at_call 10; refine HSE.out.mono ?_; rintro e w2 ⟨rfl, hb2⟩; have S2 := Hid.mk (HH.out.1.below hb2); have HCL2 := Hid.mk (fun (j : Nat) (h : j < 9) => (hb2.cell (p := ⟨w.heap.size, j, none⟩) hwl).trans (HH.out.2.2 j h)); have hw2 := Nat.lt_of_lt_of_le hwl hb2.size; clear hb2)
        go_roundw
        case rel => exact ⟨j + 1, hj9, by go_num, by rw [HC.out]; exact S2.out, hw2, HCL2.out⟩
        case measure => simp [intOf]; omega
    · obtain rfl : j = 9 := Nat.le_antisymm hj (Nat.le_of_not_lt hj9)
      have S := Hid.mk HH.out.1
      have c1 := S.out.box.cell 1 rfl
      have lK := S.out.box.lt
      have hcr := codeU_range (textT ts)
      have HNIL : Hid (codeU (textT ts) 9 ≠ 0 → textT ts ≠ []) := Hid.mk (fun h e => by rw [e] at h; exact h rfl)
      have HHD := Hid.mk (RF.head (show RF wr R ts none from S.out.x))
      clear HH hj hj9
      generalize hCU : codeU (textT ts) 9 = cu at *
      by_cases hc0 : cu = 0
      · subst hc0
        have E : Hid (bodyP at_ outs retry ts = .error (3, hereT ts)) := Hid.mk (by unfold bodyP; rw [E0.out, if_pos rfl]; rfl)
        go_wp2_with (go_at_call 11; refine (failsx_any 3 R _ _ S.out.x).mono ?_; rintro e w2 ⟨rfl, hb2, hx2⟩; have S2 := Hid.mk (S.out.call hKR hb2 hx2); clear hb2 hx2)
        first | go_end0 | (simp only [Exit.inBlock, Exit.then]; refine bodyPost_ret (results_none rfl _ _ _) rfl ?_) | refine bodyPost_ret (results_none rfl _ _ _) rfl ?_ | (simp only [Exit.inBlock, Exit.then]; refine bodyPost_end (results_none rfl _ _ _) rfl ?_)
        exact ⟨rfl, body_bad ⟨at_, 0, outs, [], [], [], ([], 0, 0, []), ([], 0, 0, []), retry⟩ E.out S2.out ⟨_, _, _, rfl⟩ ⟨_, _, _, rfl⟩⟩
      · have hcb : (cu == 0) = false := by simp [hc0]
        have E := Hid.mk (body_code (at_ := at_) (outs := outs) (retry := retry) (show codeP ts = .ok (cu, ts.tail) by rw [E0.out, if_neg hc0]))
        obtain ⟨b, o, cc, n, hc, hn, hcc, hR, hn1, k0, k1, k2, e1, e2⟩ := HHD.out
        have HM := Hid.mk (mustr_any (textT ts) R (.ok ts) wr S.out.x (HNIL.out hc0))
        rw [must_self] at HM
        generalize ba (textT ts) = TB at *
        clear hn k0 k2 e1 e2 HHD E0
        go_wp2_with (go_at_call 14; refine HM.out.mono ?_; rintro e w0 ⟨rfl, hb0, hx0⟩; replace S := Hid.mk (S.out.call hKR hb0 hx0); clear hb0 hx0)
        clear hc hcc hn1 k1 c1 HM HNIL hcb lK
        have Oi := Hid.mk (World.ownsRow_nil w0 w.heap.size 9 1)
        have c2_0 := S.out.box.cell 3 rfl
        have f2_0 := S.out.box.fz 3
        have l2 := S.out.box.lt
        obtain ⟨C, hC, HEC⟩ : ∃ C : By × List Tk → PE FJob, C = _ ∧ bodyP at_ outs retry ts = Except.bind (.ok ts.tail) fun t => (nameP t).bind C := ⟨_, rfl, E.out⟩
        have HC := Hid.mk (name_seq (w := w0.drew) S.out.drew.x HEC)
        clear HEC
        go_wp2_with fail
        go_cut [1] (fun p wx => p = .pointer (some ⟨K, 0, none⟩) ∧ ∃ (q' : QS) (s : By) (g c : Nat), SB w R K wx q' [.int .i64 (at_ : Nat), .int .i64 cu, vo, .slice (some ⟨g, 0, none⟩) 1 c, .slice none 0 0, .string ⟨#[]⟩, .string ⟨#[]⟩, .int .i64 0, .int .i64 0, .string ⟨#[]⟩, .string ⟨#[]⟩, .int .i64 0, .int .i64 0, .string ⟨#[]⟩, .int .i64 retry] ∧ wx.ownsRow w.heap.size 9 1 (.slice (some ⟨g, 0, none⟩) 1 c) 1 ([.string (ba s)]) ∧ (bodyP at_ outs retry ts = q'.bind fun t => C (s, t)))
        case first =>
          go_region_law (first | (go_simp; go_at_call 15; refine HC.out.mono ?_; rintro e wa4 ⟨q1, s1, rfl, hsl4, hb4, hx4, he4⟩; have S4 := Hid.mk (S.out.drew.call hKR hb4 hx4); have c4 := S4.out.box.cell 3 rfl; have l4 := S4.out.box.lt; have HE4 := Hid.mk he4; have sz4 := S4.out.b.size; have OW4 := Hid.mk ((own_but (Oi.out.drew) hb4 hRB).alloc (.cells #[.string (ba s1)] 9)); clear hb4 hx4 he4 hsl4) | (refine step_append_lies _ (by rfl) _ _ _ (by rfl) w.heap.size 9 i0 _ 1 16 Tryz.underlying26 hi hz0 hz1 hz2 rfl (by omega) (.slice none 0 0) (0) _ (by rfl) OW4.out ⟨wa4.heap.size, 0, none⟩ 1 1 [.string (ba s1)] (by rfl) (by rfl) (news_blk wa4 [.string (ba s1)] 9 _ rfl) (by simp [Value.oneCell']) (by omega) (by unfold maxLen; omega) (by omega) (by simp; omega) (wa4.heap.size + 1) (by simp) ?_; intro g1 c1 wb1 hown5 hgrow5 hat5 hlt5; have S5 := Hid.mk ((S4.out.alloc (.cells #[.string (ba s1)] 9)).grown hKR hKB hgrow5 (fun k hk => (OW4.out.lt k hk).1)); have c5 := S5.out.box.cell 3 rfl; have f5 := S5.out.box.fz 3; have l5 := S5.out.box.lt; have HO5 := Hid.mk hown5; clear hgrow5 hown5 hat5))
          all_goals go_wp2_with fail
          all_goals go_meet
          all_goals (refine ⟨rfl, q1, s1, g1, c1, S5.out.store hKR _ _, ownsRow_setCell_below HO5.out (a := ⟨K, 3, none⟩) (by show K < _; omega) _, HE4.out⟩)
        case rest =>
          obtain ⟨rfl, q1, s1, g1, c1, hS, hO, he⟩ := hcut
          subst hC
          dsimp only at he
          replace E := Hid.mk he
          replace S := Hid.mk hS
          replace Oi := Hid.mk hO
          clear hS hO he HC
          have ccd := S.out.box.cell 1 rfl
          have lcd := S.out.box.lt
          rcases hcr with rfl | rfl | rfl | rfl | rfl | rfl | rfl | rfl | rfl | rfl
          · exact absurd rfl hc0
          · exact absurd HCD.out (by decide)
          · exact absurd HCD.out (by decide)
          · exact absurd HCD.out (by decide)
          · exact absurd HCD.out (by decide)
          · exact absurd HCD.out (by decide)
          · exact absurd HCD.out (by decide)
          · as_aux_lemma =>
              have he := E.out
              simp +decide only [restP, if_true, if_false, true_or, or_true, or_false, false_or, ite_true, ite_false] at he
              replace E := Hid.mk he
              clear he HCD
              go_wp2_with (go_at_call 14; fail)
              clear ccd lcd
              refine (must_seq [46] S.out.x (by decide) E.out (fun _ _ _ => rfl)).mono ?_
              rintro e w3 ⟨q3, rfl, hb, hx, he⟩
              dsimp only at he
              replace E := Hid.mk he
              replace S := Hid.mk (S.out.call hKR hb hx)
              replace Oi := Hid.mk (own_but Oi.out hb hRB)
              clear hb hx he
              cases q3 with
              | error er =>
                go_wp2_with (go_at_call 16; fail)
                refine (okx_err S.out.x).mono ?_
                rintro e w4 ⟨rfl, hb⟩
                replace S := Hid.mk (S.out.below hb)
                replace Oi := Hid.mk (own_but Oi.out (But.of hb) hRB)
                clear hb
                go_wp2_with (go_at_call 14; fail)
                refine (must_err [44] S.out.x (by decide)).mono ?_
                rintro e w5 ⟨rfl, hb, hx⟩
                replace S := Hid.mk (S.out.call hKR hb hx)
                replace Oi := Hid.mk (own_but Oi.out hb hRB)
                clear hb hx
                go_wp2_with (go_at_call 16; fail)
                refine (okx_err S.out.x).mono ?_
                rintro e w6 ⟨rfl, hb⟩
                replace S := Hid.mk (S.out.below hb)
                replace Oi := Hid.mk (own_but Oi.out (But.of hb) hRB)
                clear hb
                go_wp2_with (go_at_call 14; fail)
                refine (must_err [46] S.out.x (by decide)).mono ?_
                rintro e w7 ⟨rfl, hb, hx⟩
                replace S := Hid.mk (S.out.call hKR hb hx)
                replace Oi := Hid.mk (own_but Oi.out hb hRB)
                clear hb hx
                go_wp2_with (go_at_call 16; fail)
                refine (okx_err S.out.x).mono ?_
                rintro e w8 ⟨rfl, hb⟩
                replace S := Hid.mk (S.out.below hb)
                replace Oi := Hid.mk (own_but Oi.out (But.of hb) hRB)
                clear hb
                go_wp2_with fail
                first | go_end0 | (simp only [Exit.inBlock, Exit.then]; refine bodyPost_ret (results_none rfl _ _ _) rfl ?_) | refine bodyPost_ret (results_none rfl _ _ _) rfl ?_ | (simp only [Exit.inBlock, Exit.then]; refine bodyPost_end (results_none rfl _ _ _) rfl ?_)
                exact ⟨rfl, body_bad ⟨at_, 7, outs, [], [], [], ([], 0, 0, []), ([], 0, 0, []), retry⟩ E.out S.out ⟨_, _, _, rfl⟩ ⟨_, _, _, rfl⟩⟩
              | ok t9 =>
                go_wp2_with (go_at_call 16; fail)
                refine (okx_ok S.out.x).mono ?_
                rintro e w9 ⟨rfl, hb⟩
                replace S := Hid.mk (S.out.below hb)
                replace Oi := Hid.mk (own_but Oi.out (But.of hb) hRB)
                clear hb
                go_wp2_with (go_at_call 15; fail)
                refine (name_seq S.out.x E.out).mono ?_
                rintro e w10 ⟨q10, s10, rfl, hsl, hb, hx, he⟩
                dsimp only at he
                replace E := Hid.mk he
                replace S := Hid.mk (S.out.call hKR hb hx)
                replace Oi := Hid.mk (own_but Oi.out hb hRB)
                clear hb hx he hsl
                have c11_0 := S.out.box.cell 4 rfl
                have f11_0 := S.out.box.fz 4
                have l11 := S.out.box.lt
                have c12_0 := S.out.box.cell 1 rfl
                have f12_0 := S.out.box.fz 1
                have l12 := S.out.box.lt
                replace S : Hid (SB w R K _ (q10) [.int .i64 (at_ : Nat), .int .i64 7, vo, .slice (some ⟨g1, 0, none⟩) 1 c1, .slice (some ⟨w10.heap.size, 0, none⟩) 1 1, .string ⟨#[]⟩, .string ⟨#[]⟩, .int .i64 0, .int .i64 0, .string ⟨#[]⟩, .string ⟨#[]⟩, .int .i64 0, .int .i64 0, .string ⟨#[]⟩, .int .i64 retry]) := Hid.mk (S.out.store hKR 4 (.slice (some ⟨w10.heap.size, 0, none⟩) 1 1))
                replace Oi := Hid.mk (ownsRow_setCell_below Oi.out (a := ⟨K, 4, none⟩) (by show K < _; omega) (.slice (some ⟨w10.heap.size, 0, none⟩) 1 1))
                have hc : w.heap.size ≤ (w10.setCell ⟨K, 4, none⟩ (.slice (some ⟨w10.heap.size, 0, none⟩) 1 1)).heap.size := S.out.b.size
                have Oc := Hid.mk (own_new1 (w10.setCell ⟨K, 4, none⟩ (.slice (some ⟨w10.heap.size, 0, none⟩) 1 1)) w.heap.size 9 (strV [s10]) 1 w10.heap.size rfl hc (size_set _ _ _).symm)
                have hxi := (Oi.out.lt _ rfl).2
                simp only [size_set] at hxi
                replace S := Hid.mk (S.out.alloc (.cells #[.string (ba s10)] 9))
                replace Oi := Hid.mk (Oi.out.alloc (.cells #[.string (ba s10)] 9))
                go_wp2_with (go_at_call 14; fail)
                clear c11_0 f11_0 l11 c12_0 f12_0 l12
                refine (must_seq [44] S.out.x (by decide) E.out (fun _ _ _ => rfl)).mono ?_
                rintro e w13 ⟨q13, rfl, hb, hx, he⟩
                dsimp only at he
                replace E := Hid.mk he
                replace S := Hid.mk (S.out.call hKR hb hx)
                replace Oi := Hid.mk (own_but Oi.out hb hRB)
                replace Oc := Hid.mk (own_but Oc.out hb hRB)
                clear hb hx he
                cases q13 with
                | error er =>
                  go_wp2_with (go_at_call 16; fail)
                  refine (okx_err S.out.x).mono ?_
                  rintro e w14 ⟨rfl, hb⟩
                  replace S := Hid.mk (S.out.below hb)
                  replace Oi := Hid.mk (own_but Oi.out (But.of hb) hRB)
                  replace Oc := Hid.mk (own_but Oc.out (But.of hb) hRB)
                  clear hb
                  go_wp2_with (go_at_call 14; fail)
                  refine (must_err [46] S.out.x (by decide)).mono ?_
                  rintro e w15 ⟨rfl, hb, hx⟩
                  replace S := Hid.mk (S.out.call hKR hb hx)
                  replace Oi := Hid.mk (own_but Oi.out hb hRB)
                  replace Oc := Hid.mk (own_but Oc.out hb hRB)
                  clear hb hx
                  go_wp2_with (go_at_call 16; fail)
                  refine (okx_err S.out.x).mono ?_
                  rintro e w16 ⟨rfl, hb⟩
                  replace S := Hid.mk (S.out.below hb)
                  replace Oi := Hid.mk (own_but Oi.out (But.of hb) hRB)
                  replace Oc := Hid.mk (own_but Oc.out (But.of hb) hRB)
                  clear hb
                  go_wp2_with fail
                  first | go_end0 | (simp only [Exit.inBlock, Exit.then]; refine bodyPost_ret (results_none rfl _ _ _) rfl ?_) | refine bodyPost_ret (results_none rfl _ _ _) rfl ?_ | (simp only [Exit.inBlock, Exit.then]; refine bodyPost_end (results_none rfl _ _ _) rfl ?_)
                  exact ⟨rfl, body_bad ⟨at_, 7, outs, [], [], [], ([], 0, 0, []), ([], 0, 0, []), retry⟩ E.out S.out ⟨_, _, _, rfl⟩ ⟨_, _, _, rfl⟩⟩
                | ok t17 =>
                  go_wp2_with (go_at_call 16; fail)
                  refine (okx_ok S.out.x).mono ?_
                  rintro e w17 ⟨rfl, hb⟩
                  replace S := Hid.mk (S.out.below hb)
                  replace Oi := Hid.mk (own_but Oi.out (But.of hb) hRB)
                  replace Oc := Hid.mk (own_but Oc.out (But.of hb) hRB)
                  clear hb
                  have c19_0 := S.out.box.cell 3 rfl
                  have f19_0 := S.out.box.fz 3
                  have l19 := S.out.box.lt
                  obtain ⟨C, hC, HEC⟩ : ∃ C : By × List Tk → PE FJob, C = _ ∧ bodyP at_ outs retry ts = Except.bind (.ok t17) fun t => (nameP t).bind C := ⟨_, rfl, E.out⟩
                  have HC := Hid.mk (name_seq (w := w17.drew) S.out.drew.x HEC)
                  clear HEC
                  go_wp2_with fail
                  go_region_law (first | (go_simp; go_at_call 15; refine HC.out.mono ?_; rintro e wa4 ⟨q18, s18, rfl, hsl4, hb4, hx4, he4⟩; have S4 := Hid.mk (S.out.drew.call hKR hb4 hx4); have c4 := S4.out.box.cell 3 rfl; have l4 := S4.out.box.lt; have HE4 := Hid.mk he4; have sz4 := S4.out.b.size; have OW4 := Hid.mk ((own_but (Oi.out.drew) hb4 hRB).alloc (.cells #[.string (ba s18)] 9)); have OR4 := Hid.mk ((own_but (Oc.out.drew) hb4 hRB).alloc (.cells #[.string (ba s18)] 9)); clear hb4 hx4 he4 hsl4) | (refine step_append_lies _ (by rfl) _ _ _ (by rfl) w.heap.size 9 i0 _ 1 16 Tryz.underlying26 hi hz0 hz1 hz2 rfl (by omega) (.slice (some ⟨g1, 0, none⟩) 1 c1) (1) _ (by rfl) OW4.out ⟨wa4.heap.size, 0, none⟩ 1 1 [.string (ba s18)] (by rfl) (by rfl) (news_blk wa4 [.string (ba s18)] 9 _ rfl) (by simp [Value.oneCell']) (by omega) (by unfold maxLen; omega) (by omega) (by simp; omega) (wa4.heap.size + 1) (by simp) ?_; intro g18 c18 wb18 hown5 hgrow5 hat5 hlt5; have S5 := Hid.mk ((S4.out.alloc (.cells #[.string (ba s18)] 9)).grown hKR hKB hgrow5 (fun k hk => (OW4.out.lt k hk).1)); have c5 := S5.out.box.cell 3 rfl; have f5 := S5.out.box.fz 3; have l5 := S5.out.box.lt; have HO5 := Hid.mk hown5; have HAT5 := Hid.mk hat5; have OR5 := Hid.mk (OR4.out.kept hgrow5 (Or.inr (by intro e; simp [Value.ownBlock] at e; omega))); clear hgrow5 hown5 hat5))
                  all_goals
                    replace S : Hid (SB w R K (wb18.setCell ⟨K, 3, none⟩ (.slice (some ⟨g18, 0, none⟩) 2 c18)) q18 [.int .i64 (at_ : Nat), .int .i64 7, vo, .slice (some ⟨g18, 0, none⟩) 2 c18, .slice (some ⟨w10.heap.size, 0, none⟩) 1 1, .string ⟨#[]⟩, .string ⟨#[]⟩, .int .i64 0, .int .i64 0, .string ⟨#[]⟩, .string ⟨#[]⟩, .int .i64 0, .int .i64 0, .string ⟨#[]⟩, .int .i64 retry]) := Hid.mk (S5.out.store hKR _ _)
                    replace Oi : Hid (World.ownsRow (wb18.setCell ⟨K, 3, none⟩ (.slice (some ⟨g18, 0, none⟩) 2 c18)) w.heap.size 9 1 (.slice (some ⟨g18, 0, none⟩) 2 c18) 2 (strV [s1, s18])) := Hid.mk (ownsRow_setCell_below HO5.out (a := ⟨K, 3, none⟩) (by show K < _; omega) _)
                    replace Oc := Hid.mk (ownsRow_setCell_below OR5.out (a := ⟨K, 3, none⟩) (by show K < _; omega) (.slice (some ⟨g18, 0, none⟩) 2 c18))
                    have hne18 : g18 ≠ w10.heap.size := by
                      have h2 := (OR4.out.lt _ rfl).2; rcases HAT5.out with h | h <;> simp [Value.ownBlock] at h h2 <;> omega
                    subst hC
                    have he := HE4.out
                    dsimp only at he
                    replace E := Hid.mk he
                    clear he HE4 S4 S5 OW4 HO5 HC c4 l4 sz4 OR4 OR5 HAT5
                    go_wp2_with (go_at_call 14; fail)
                    clear c19_0 f19_0 l19 c5 f5 l5
                    refine (must_seq [46] S.out.x (by decide) E.out (fun _ _ _ => rfl)).mono ?_
                    rintro e w20 ⟨q20, rfl, hb, hx, he⟩
                    dsimp only at he
                    replace E := Hid.mk he
                    replace S := Hid.mk (S.out.call hKR hb hx)
                    replace Oi := Hid.mk (own_but Oi.out hb hRB)
                    replace Oc := Hid.mk (own_but Oc.out hb hRB)
                    clear hb hx he
                    cases q20 with
                    | error er =>
                      go_wp2_with (go_at_call 16; fail)
                      refine (okx_err S.out.x).mono ?_
                      rintro e w21 ⟨rfl, hb⟩
                      replace S := Hid.mk (S.out.below hb)
                      replace Oi := Hid.mk (own_but Oi.out (But.of hb) hRB)
                      replace Oc := Hid.mk (own_but Oc.out (But.of hb) hRB)
                      clear hb
                      go_wp2_with fail
                      first | go_end0 | (simp only [Exit.inBlock, Exit.then]; refine bodyPost_ret (results_none rfl _ _ _) rfl ?_) | refine bodyPost_ret (results_none rfl _ _ _) rfl ?_ | (simp only [Exit.inBlock, Exit.then]; refine bodyPost_end (results_none rfl _ _ _) rfl ?_)
                      exact ⟨rfl, body_bad ⟨at_, 7, outs, [], [], [], ([], 0, 0, []), ([], 0, 0, []), retry⟩ E.out S.out ⟨_, _, _, rfl⟩ ⟨_, _, _, rfl⟩⟩
                    | ok t22 =>
                      go_wp2_with (go_at_call 16; fail)
                      refine (okx_ok S.out.x).mono ?_
                      rintro e w22 ⟨rfl, hb⟩
                      replace S := Hid.mk (S.out.below hb)
                      replace Oi := Hid.mk (own_but Oi.out (But.of hb) hRB)
                      replace Oc := Hid.mk (own_but Oc.out (But.of hb) hRB)
                      clear hb
                      have c24_0 := S.out.box.cell 4 rfl
                      have f24_0 := S.out.box.fz 4
                      have l24 := S.out.box.lt
                      obtain ⟨C, hC, HEC⟩ : ∃ C : By × List Tk → PE FJob, C = _ ∧ bodyP at_ outs retry ts = Except.bind (.ok t22) fun t => (nameP t).bind C := ⟨_, rfl, E.out⟩
                      have HC := Hid.mk (name_seq (w := w22.drew) S.out.drew.x HEC)
                      clear HEC
                      go_wp2_with fail
                      go_region_law (first | (go_simp; go_at_call 15; refine HC.out.mono ?_; rintro e wa4 ⟨q23, s23, rfl, hsl4, hb4, hx4, he4⟩; have S4 := Hid.mk (S.out.drew.call hKR hb4 hx4); have c4 := S4.out.box.cell 4 rfl; have l4 := S4.out.box.lt; have HE4 := Hid.mk he4; have sz4 := S4.out.b.size; have OW4 := Hid.mk ((own_but (Oc.out.drew) hb4 hRB).alloc (.cells #[.string (ba s23)] 9)); have OR4 := Hid.mk ((own_but (Oi.out.drew) hb4 hRB).alloc (.cells #[.string (ba s23)] 9)); clear hb4 hx4 he4 hsl4) | (refine step_append_lies _ (by rfl) _ _ _ (by rfl) w.heap.size 9 i0 _ 1 16 Tryz.underlying26 hi hz0 hz1 hz2 rfl (by omega) (.slice (some ⟨w10.heap.size, 0, none⟩) 1 1) (1) _ (by rfl) OW4.out ⟨wa4.heap.size, 0, none⟩ 1 1 [.string (ba s23)] (by rfl) (by rfl) (news_blk wa4 [.string (ba s23)] 9 _ rfl) (by simp [Value.oneCell']) (by omega) (by unfold maxLen; omega) (by omega) (by simp; omega) (wa4.heap.size + 1) (by simp) ?_; intro g23 c23 wb23 hown5 hgrow5 hat5 hlt5; have S5 := Hid.mk ((S4.out.alloc (.cells #[.string (ba s23)] 9)).grown hKR hKB hgrow5 (fun k hk => (OW4.out.lt k hk).1)); have c5 := S5.out.box.cell 4 rfl; have f5 := S5.out.box.fz 4; have l5 := S5.out.box.lt; have HO5 := Hid.mk hown5; have HAT5 := Hid.mk hat5; have OR5 := Hid.mk (OR4.out.kept hgrow5 (Or.inr (by intro e; simp [Value.ownBlock] at e; omega))); clear hgrow5 hown5 hat5))
                      all_goals
                        replace S : Hid (SB w R K (wb23.setCell ⟨K, 4, none⟩ (.slice (some ⟨g23, 0, none⟩) 2 c23)) q23 [.int .i64 (at_ : Nat), .int .i64 7, vo, .slice (some ⟨g18, 0, none⟩) 2 c18, .slice (some ⟨g23, 0, none⟩) 2 c23, .string ⟨#[]⟩, .string ⟨#[]⟩, .int .i64 0, .int .i64 0, .string ⟨#[]⟩, .string ⟨#[]⟩, .int .i64 0, .int .i64 0, .string ⟨#[]⟩, .int .i64 retry]) := Hid.mk (S5.out.store hKR _ _)
                        replace Oc : Hid (World.ownsRow (wb23.setCell ⟨K, 4, none⟩ (.slice (some ⟨g23, 0, none⟩) 2 c23)) w.heap.size 9 1 (.slice (some ⟨g23, 0, none⟩) 2 c23) 2 (strV [s10, s23])) := Hid.mk (ownsRow_setCell_below HO5.out (a := ⟨K, 4, none⟩) (by show K < _; omega) _)
                        replace Oi := Hid.mk (ownsRow_setCell_below OR5.out (a := ⟨K, 4, none⟩) (by show K < _; omega) (.slice (some ⟨g23, 0, none⟩) 2 c23))
                        have hne23 : g23 ≠ g18 := by
                          have h2 := (OR4.out.lt _ rfl).2; rcases HAT5.out with h | h <;> simp [Value.ownBlock] at h h2 <;> omega
                        subst hC
                        have he := HE4.out
                        dsimp only at he
                        replace E := Hid.mk he
                        clear he HE4 S4 S5 OW4 HO5 HC c4 l4 sz4 OR4 OR5 HAT5
                        go_wp2_with fail
                        first | go_end0 | (simp only [Exit.inBlock, Exit.then]; refine bodyPost_ret (results_none rfl _ _ _) rfl ?_) | refine bodyPost_ret (results_none rfl _ _ _) rfl ?_ | (simp only [Exit.inBlock, Exit.then]; refine bodyPost_end (results_none rfl _ _ _) rfl ?_)
                        exact ⟨rfl, body_end E.out S.out ⟨_, _, _, rfl⟩ ⟨_, _, _, rfl⟩ (fun _ => Oi.out) (fun _ => Oc.out)⟩
          · exact absurd HCD.out (by decide)
          · exact absurd HCD.out (by decide)
end Go.Proofs.YtedflhiflomoeaaGreatDoor
