import Derived.Test.YtedflhiflomoeaaGreatDoorRefPa
import Derived.Test.YtedflhiflomoeaaGreatDoorRefZ
import Derived.Deep.AppendLies
import Derived.BigRegion
import Derived.Deep.RegionLaw
import Derived.Deep.Cut
import Derived.Deep.CutBlock
import Derived.Deep.DeepCutAuto
set_option linter.unusedSimpArgs false
set_option linter.unusedVariables false
namespace Go.Proofs.YtedflhiflomoeaaGreatDoor
open Go.RowKit

theorem enc_in {B : Nat} {a : FIn} {n0 : Nat} {s0 : By} {a0 : Option Addr} {k0 c0 : Nat} {w : World} (h : encIn B a (.agg #[.int .i64 (n0 : Nat), .string (ba s0), .slice a0 k0 c0]) w) : n0 = a.at_ ∧ s0 = a.name ∧ encCs B a.cols (.slice a0 k0 c0) w := by
  obtain ⟨vc, h1, h2⟩ := h
  simp only [Value.agg.injEq, Array.mk.injEq, List.cons.injEq, Value.string.injEq, Value.int.injEq, and_true, true_and, ByteArray.mk.injEq] at h1
  obtain ⟨e1, e2, e3⟩ := h1
  subst e3
  exact ⟨by omega, by simpa using e2, h2⟩
theorem jobV_inj {j j' : FJob} {a b c a' b' c' : Value} (h : jobV j a b c = jobV j' a' b' c') : a = a' ∧ b = b' ∧ c = c' := by
  unfold jobV at h
  simp only [List.cons.injEq] at h
  exact ⟨h.2.2.1, h.2.2.2.1, h.2.2.2.2.1⟩
theorem enc_job {B : Nat} {a j : FJob} {vo vi vc : Value} {w : World} (h : encJ B a (.agg (jobV j vo vi vc).toArray) w) : jobV j vo vi vc = jobV a vo vi vc ∧ encL B a.outs vo w ∧ encL B a.ins vi w ∧ encL B a.cols vc w := by
  obtain ⟨vo', vi', vc', h1, h2, h3, h4⟩ := h
  simp only [Value.agg.injEq, Array.mk.injEq] at h1
  obtain ⟨rfl, rfl, rfl⟩ := jobV_inj h1
  exact ⟨h1, h2, h3, h4⟩
theorem ne_nil {w : World} {R : Nat} {t : List Tk} (h : RX w R (.ok t)) : t ≠ [] := h.ne t rfl
theorem fuel_succ {t : List Tk} {f : Nat} (h : t ≠ []) (hf : t.length ≤ f) : ∃ f', f = f' + 1 := ⟨f - 1, by have := List.length_pos_iff.mpr h; omega⟩
set_option maxRecDepth 100000 in
set_option maxHeartbeats 12800000 in
theorem parser_any (l : By) (w : World) (hl : l.length ≤ 1000000) (hE : REnv w) : Calls Tryz.prog 5 #[.string (ba l)] w fun e w' => PRes (refF l) e w.heap.size w' ∧ Below w.heap.size w w' := by
  obtain ⟨i1, hi1, hz10, hz11, hz12⟩ := info_parts Tryz.infoIn
  obtain ⟨i2, hi2, hz20, hz21, hz22⟩ := info_parts Tryz.infoJob
  obtain ⟨i3, hi3, hz30, hz31, hz32⟩ := info_parts Tryz.infoOut
  have HE := Hid.mk hE
  have HGW := Hid.mk (hE.size 0 (by simp [refVars]))
  clear hE
  go_enter Tryz.func5, Tryz.ntmps5
  go_wp2_with (go_at_call 9; fail)
  have HB1 := Hid.mk (bel_box (below_box w (.cells #[.slice none 0 0, .slice none 0 0, .slice none 0 0] 31)) (.cells #[.int .i64 0, .int .i64 0] 34))
  have X1 := Hid.mk ((Box.new w [.slice none 0 0, .slice none 0 0, .slice none 0 0] 31 _ rfl).below (below_box _ (.cells #[.int .i64 0, .int .i64 0] 34)))
  have Y1 := Hid.mk (Box.new (w.alloc (.cells #[.slice none 0 0, .slice none 0 0, .slice none 0 0] 31)) [.int .i64 0, .int .i64 0] 34 (w.heap.size + 1) (by simp))
  refine (toksr_any l _ hl (HE.out.below HB1.out)).mono ?_
  rintro e w2 ⟨hb2, hq⟩
  have HB2 := Hid.mk (HB1.out.trans (hb2.mono (by simp; omega)))
  have X2 := Hid.mk (X1.out.below hb2)
  have Y2 := Hid.mk (Y1.out.below hb2)
  have HE2 := Hid.mk (HE.out.below HB2.out)
  have hx2 := X2.out.lt
  have hy2 := Y2.out.lt
  clear hb2 HB1 X1 Y1
  cases hts : tokensL l with
  | error er =>
    rw [hts] at hq
    obtain ⟨c, p⟩ := er
    have hq : e = .returned (.tuple #[.slice none 0 0, .agg #[.int .i64 c, .int .i64 (p : Nat)]]) := hq
    subst hq
    as_aux_lemma =>
      have g0 := HE2.out.f0
      have g1 := HE2.out.f1
      have gs := HE2.out.size 0 (by simp [refVars])
      have hgw := HGW.out
      have hp : ((p : Int) == -1) = false := by simp
      have HRF : Hid (refF l = .error (c, p)) := Hid.mk (by unfold refF; rw [hts]; rfl)
      clear hts hl
      obtain ⟨w3, hw3⟩ : ∃ x, w2.alloc (.cells #[.int .i64 c, .int .i64 (p : Nat)] 34) = x := ⟨_, rfl⟩
      have hb3 : Below w2.heap.size w2 w3 := by rw [← hw3]; exact below_box _ _
      have XF : Box w3 w2.heap.size [.int .i64 c, .int .i64 (p : Nat)] := by rw [← hw3]; exact Box.new w2 _ _ _ rfl
      have xf0 := XF.cell 0 rfl
      have xf1 := XF.cell 1 rfl
      have xfl := XF.lt
      have R1 := X2.out.below hb3
      have R2 := Y2.out.below hb3
      have g0 := (HE2.out.below hb3).f0
      have g1 := (HE2.out.below hb3).f1
      have gs3 := (HE2.out.below hb3).size 0 (by simp [refVars])
      have HB3 := HB2.out.trans (hb3.mono HB2.out.size)
      have hf1 := R1.fz 0
      have hf2 := R1.fz 1
      have hf3 := R1.fz 2
      have hf4 := R2.fz 0
      have hf5 := R2.fz 1
      have hc1 := R1.cell 0 rfl
      have hc2 := R1.cell 1 rfl
      have hc3' := R1.cell 2 rfl
      have hc4 := R2.cell 0 rfl
      have hc5 := R2.cell 1 rfl
      have hl1 := R1.lt
      have hl2 := R2.lt
      obtain ⟨hA, hB, hC, -⟩ := res_w HB3 R1 R2 (.slice none 0 0) (.slice none 0 0) (.slice none 0 0) (.int .i64 c) (.int .i64 (p : Nat))
      have HA := Hid.mk hA
      have HB := Hid.mk hB
      have HBL := Hid.mk hC
      clear hA hB hC R1 R2 XF hb3 HB3 HE2 HB2 X2 Y2
      by_cases hc0 : c = 0
      · subst hc0
        go_wp2_with fail
        go_region
        go_wp2_with fail
        change bodyPost _ _ _ _ _ (resW w3 w.heap.size (.slice none 0 0) (.slice none 0 0) (.slice none 0 0) (.int .i64 0) (.int .i64 (p : Nat)))
        generalize resW w3 w.heap.size (.slice none 0 0) (.slice none 0 0) (.slice none 0 0) (.int .i64 0) (.int .i64 (p : Nat)) = WF at *
        refine bodyPost_ret (v := .tuple #[.agg #[.slice none 0 0, .slice none 0 0, .slice none 0 0], .agg #[.int .i64 0, .int .i64 (p : Nat)]]) (results_cell2 rfl _ _ _ rfl rfl (load_flow HA.out) (load_fault HB.out)) rfl ?_
        exact ⟨Or.inr ⟨(0, p), HRF.out, rfl⟩, HBL.out⟩
      · have hcb : (c == 0) = false := by simp [hc0]
        go_wp2_with fail
        go_region
        go_wp2_with fail
        change bodyPost _ _ _ _ _ (resW w3 w.heap.size (.slice none 0 0) (.slice none 0 0) (.slice none 0 0) (.int .i64 c) (.int .i64 (p : Nat)))
        generalize resW w3 w.heap.size (.slice none 0 0) (.slice none 0 0) (.slice none 0 0) (.int .i64 c) (.int .i64 (p : Nat)) = WF at *
        refine bodyPost_ret (v := .tuple #[.agg #[.slice none 0 0, .slice none 0 0, .slice none 0 0], .agg #[.int .i64 c, .int .i64 (p : Nat)]]) (results_cell2 rfl _ _ _ rfl rfl (load_flow HA.out) (load_fault HB.out)) rfl ?_
        exact ⟨Or.inr ⟨(c, p), HRF.out, rfl⟩, HBL.out⟩
  | ok ts =>
    rw [hts] at hq
    obtain ⟨v, rfl, hrow⟩ := hq
    have hgood := tokens_good hl hts
    have h4 := tokens_tkR hts
    have HFR : Hid (refF l = flowR ts) := Hid.mk (by unfold refF; rw [hts]; rfl)
    obtain ⟨va, vcp, rfl⟩ := own_slice hrow
    have HRN := Hid.mk (rf_new (hrow.alloc (.cells #[.int .i64 0, .int .i64 (-1)] 34)) hgood (HE2.out.below (below_box _ _)) h4)
    have g0 := HE2.out.f0
    have g1 := HE2.out.f1
    have gs := HE2.out.size 0 (by simp [refVars])
    clear hts hrow hgood h4 hl
    obtain ⟨wr0, hwr0⟩ : ∃ x, ((w2.alloc (.cells #[.int .i64 0, .int .i64 (-1)] 34)).alloc (.cells #[.slice va ts.length vcp, .int .i64 0, .int .i64 (-1)] 49)).alloc (.cells #[.slice none 0 0, .slice none 0 0, .slice none 0 0] 31) = x := ⟨_, rfl⟩
    have S0 : Hid (PS w (w2.heap.size + 1) wr0 (.ok ts) [.slice none 0 0, .slice none 0 0, .slice none 0 0]) := Hid.mk (by
      have hb := bel_box (bel_box (below_box w2 (.cells #[.int .i64 0, .int .i64 (-1)] 34)) (.cells #[.slice va ts.length vcp, .int .i64 0, .int .i64 (-1)] 49)) (.cells #[.slice none 0 0, .slice none 0 0, .slice none 0 0] 31)
      have h1 := HRN.out
      simp only [World.size_alloc] at h1
      rw [← hwr0]
      exact ⟨(show RX _ _ (.ok ts) from h1).below (below_box _ _), HB2.out.trans (hb.mono HB2.out.size), X2.out.below hb, Y2.out.below hb, Box.new _ _ _ _ (by simp)⟩)
    have HR0 : Hid (w.heap.size + 2 ≤ w2.heap.size + 1) := Hid.mk (by omega)
    clear HRN X2 Y2 HB2 HE2 HE
    go_upto_block 0 with fail
    clear hwr0 g0 g1 gs
    generalize hRe : w2.heap.size + 1 = R at *
    have hR := HR0.out
    have HG : Hid (∀ V, REnv V → V.cell? ⟨0, 0, none⟩ = some (.int .i64 0) ∧ V.cell? ⟨0, 1, none⟩ = some (.int .i64 (-1)) ∧ 0 < V.heap.size) := Hid.mk (fun V h => ⟨h.f0, h.f1, h.size _ (by simp [refVars])⟩)
    clear HR0 hx2 hy2
    go_upto_block 0 with fail
    go_cut [] (fun wx => ∃ (q : QS) (va1 : Option Addr) (n1 vc1 : Nat), PS w R wx q [.slice va1 n1 vc1, .slice none 0 0, .slice none 0 0] ∧ LE ts q fun t => ∃ acc1, n1 = acc1.length ∧ (∃ vs1, FlowI wx (R + 2) acc1 vs1 (.slice va1 n1 vc1)) ∧ flowR ts = KI (acc1, t))
    case first =>
      go_wp2_with fail
      go_loopg [] 17 (fun g wr => ∃ (q : QS) (va1 : Option Addr) (n1 vc1 : Nat), n1 ≤ 16 ∧ 16 - n1 ≤ g ∧ Aside (PS w R wr q [.slice va1 n1 vc1, .slice none 0 0, .slice none 0 0] ∧ LE ts q fun t => ∃ acc1, n1 = acc1.length ∧ (∃ vs1, FlowI wr (R + 2) acc1 vs1 (.slice va1 n1 vc1)) ∧ ∃ f, t.length ≤ f ∧ flowR ts = (partsP wIn inputP f acc1 t).bind KI))
      case atStart =>
        exact ⟨.ok ts, none, 0, 0, by omega, by omega, S0.out, [], rfl, ⟨[], FlowI.nil _ _⟩, _, Nat.le_refl _, flowR_eq ts⟩
      case round =>
        clear S0
        obtain ⟨q, va1, n1, vc1, hn, hg, HH⟩ := hrel
        have hlo := HH.out.1.o.lt
        cases q with
        | error er =>
          have S := Hid.mk HH.out.1
          have HL : Hid (flowR ts = .error er) := Hid.mk HH.out.2
          clear HH
          go_wp2_with (go_at_call 10; refine (see_err (x := wIn) S.out.x (by decide)).mono ?_; rintro e w2 ⟨rfl, hb⟩; replace S := Hid.mk (S.out.below hb); clear hb)
          go_meet
          exact ⟨.error er, va1, n1, vc1, S.out, HL.out⟩
        | ok t =>
          have S := Hid.mk HH.out.1
          obtain ⟨acc1, hnl, ⟨vs1, hFL⟩, f, hf, hfl⟩ := HH.out.2
          have FL := Hid.mk hFL
          have HNL := Hid.mk hnl
          clear HH hFL
          by_cases hm : textT t = wIn
          · by_cases h16 : n1 = 16
            · as_aux_lemma =>
                obtain ⟨f', rfl⟩ := fuel_succ (ne_nil S.out.x) hf
                have HER : Hid (flowR ts = .error (4, hereT t)) := Hid.mk (by rw [hfl, parts_full hm (by rw [← hnl]; exact h16)]; rfl)
                have hmb : (textT t == wIn) = true := by rw [hm]; rfl
                subst h16
                clear hfl hf hm hnl HNL FL
                go_wp2_with (first | (go_at_call 10; refine (see_ok (x := wIn) S.out.x (by decide)).mono ?_; rintro e w2 ⟨rfl, hb⟩; replace S := Hid.mk (S.out.below hb); have co := S.out.o.cell 0 rfl; have lo := S.out.o.lt; clear hb) | (go_at_call 11; refine (failsx_any 4 R (.ok t) _ S.out.x).mono ?_; rintro e w3 ⟨rfl, hb, hx⟩; replace S := Hid.mk (S.out.call hR hb hx); clear hb hx))
                go_meet
                exact ⟨.error (4, hereT t), va1, _, vc1, S.out, HER.out⟩
            · as_aux_lemma =>
                obtain ⟨f', rfl⟩ := fuel_succ (ne_nil S.out.x) hf
                have HFL := Hid.mk hfl
                have HF := Hid.mk hf
                have HM := Hid.mk hm
                have hmb : (textT t == wIn) = true := by rw [hm]; rfl
                have hn16 : n1 < 16 := by omega
                have hni : ¬ ((16 : Int) ≤ (n1 : Int)) := by omega
                clear hfl hf hm hnl h16
                go_wp2_with (go_at_call 10; refine (see_ok (x := wIn) S.out.x (by decide)).mono ?_; rintro e wl ⟨rfl, hb⟩; replace S := Hid.mk (S.out.below hb); replace FL := Hid.mk (FL.out.imp (keeps_below hb)); have co := S.out.o.cell 0 rfl; have fo := S.out.o.fz 0; have lo := S.out.o.lt; clear hb)
                have OL : Hid (wl.ownsRow (R + 2) 54 3 (.slice va1 n1 vc1) n1 (insV acc1 vs1)) := Hid.mk (by have h := FL.out.row; rw [← HNL.out] at h; exact h)
                have HC := Hid.mk (inputr_any R t wl.drew S.out.drew.x)
                skip
                go_region_law (first | (go_simp; go_at_call 12; refine HC.out.mono ?_; rintro e wa4 ⟨v, rfl, ⟨n0, s0, a0, k0, c0, rfl⟩, hb4, hen4, hx4⟩; have S4 := Hid.mk (S.out.drew.call hR hb4 hx4); have c4 := S4.out.o.cell 0 rfl; have l4 := S4.out.o.lt; have OW4 := Hid.mk ((own_but (OL.out.drew) hb4 (by omega)).alloc (.cells #[.int .i64 (n0 : Nat), .string (ba s0), .slice a0 k0 c0] 54)); have FL4 := Hid.mk ((FL.out.imp (fun e z n v xs h => own_but (h.drew) hb4 (by omega))).imp (fun e z n v xs h => h.alloc (.cells #[.int .i64 (n0 : Nat), .string (ba s0), .slice a0 k0 c0] 54))); have EC4 : Hid (∀ a t', inputP t = .ok (a, t') → n0 = a.at_ ∧ s0 = a.name ∧ encCs (R + 2) a.cols (.slice a0 k0 c0) (wa4.alloc (.cells #[.int .i64 (n0 : Nat), .string (ba s0), .slice a0 k0 c0] 54))) := Hid.mk (fun a t' h => (let ⟨e1, e2, e3⟩ := enc_in (hen4 a t' h); And.intro e1 (And.intro e2 ((own_mono (by simp only [World.drew] at *; omega) e3).alloc _)))); clear hb4 hx4 hen4) | (refine step_append_lies _ (by rfl) _ _ _ (by rfl) (R + 2) 54 i1 _ 3 48 Tryz.underlying27 hi1 hz10 hz11 hz12 rfl (by omega) (.slice va1 n1 vc1) n1 _ (by rfl) OW4.out ⟨wa4.heap.size, 0, none⟩ 1 1 [.int .i64 (n0 : Nat), .string (ba s0), .slice a0 k0 c0] (by rfl) (by rfl) (news_blk wa4 [.int .i64 (n0 : Nat), .string (ba s0), .slice a0 k0 c0] 54 _ rfl) (by simp [Value.oneCell']) (by omega) (by unfold maxLen; omega) (by omega) (by simp; omega) (wa4.heap.size + 1) (by simp) ?_; intro gg cap wb5 hown5 hgrow5 hat5 hlt5; have S5 := Hid.mk ((S4.out.alloc (.cells #[.int .i64 (n0 : Nat), .string (ba s0), .slice a0 k0 c0] 54)).grown hR hgrow5 (fun k hk => (OW4.out.lt k hk).1)); have c5 := S5.out.o.cell 0 rfl; have f5 := S5.out.o.fz 0; have l5 := S5.out.o.lt; have FI5 : Hid (∀ a t', inputP t = .ok (a, t') → FlowI wb5 (R + 2) (acc1 ++ [a]) (vs1 ++ [.slice a0 k0 c0]) (.slice (some ⟨gg, 0, none⟩) (n1 + 1) cap)) := Hid.mk (fun a t' h => (by obtain ⟨e1, e2, e3⟩ := EC4.out a t' h; subst e1; subst e2; exact FL4.out.step e3 hgrow5 (by rw [← HNL.out]; exact hown5))); clear hgrow5 hown5 hat5))
                all_goals
                  have HST := Hid.mk (part_step (G := fun acc1 _ => ∃ vs1, FlowI (wb5.setCell ⟨R + 1, 0, none⟩ (.slice (some ⟨gg, 0, none⟩) (n1 + 1) cap)) (R + 2) acc1 vs1 (.slice (some ⟨gg, 0, none⟩) (n1 + 1) cap)) HFL.out HM.out (by have := HNL.out; omega) (le_input t) (ne_nil S.out.x) HF.out (fun a t' h => ⟨_, (FI5.out a t' h).imp (fun e z n v xs h => ownsRow_setCell_below h (a := ⟨R + 1, 0, none⟩) (by show R + 1 < _; omega) _)⟩))
                  go_wp2_with fail
                  go_roundg (16 - (n1 + 1))
                  case measure => omega
                  case rel =>
                    refine ⟨_, some ⟨gg, 0, none⟩, n1 + 1, cap, by omega, Nat.le_refl _, S5.out.store hR 0 _, ?_⟩
                    have hst := HST.out
                    cases hp : inputP t with
                    | error er => rw [hp] at hst; exact hst
                    | ok y =>
                      obtain ⟨a, t'⟩ := y
                      rw [hp] at hst
                      obtain ⟨acc', hl, ⟨vs', hF⟩, f, hf, he⟩ := hst
                      exact ⟨acc', by have := HNL.out; omega, ⟨vs', hF⟩, f, hf, he⟩
          · as_aux_lemma =>
              obtain ⟨f', rfl⟩ := fuel_succ (ne_nil S.out.x) hf
              have HEQ : Hid (flowR ts = KI (acc1, t)) := Hid.mk (by rw [hfl, parts_no hm]; rfl)
              have hmb : (textT t == wIn) = false := by simp [hm]
              clear hfl hf hm hnl
              go_wp2_with (go_at_call 10; refine (see_ok (x := wIn) S.out.x (by decide)).mono ?_; rintro e w2 ⟨rfl, hb⟩; replace S := Hid.mk (S.out.below hb); replace FL := Hid.mk (FL.out.imp (keeps_below hb)); clear hb)
              go_meet
              exact ⟨.ok t, va1, n1, vc1, S.out, acc1, HNL.out, ⟨vs1, FL.out⟩, HEQ.out⟩
    case rest =>
      have HC1 := Hid.mk hcut
      clear hcut S0
      go_upto_block 2 with fail
      go_cut [] (fun wx => ∃ (q : QS) (va1 : Option Addr) (n1 vc1 : Nat) (va2 : Option Addr) (n2 vc2 : Nat), PS w R wx q [.slice va1 n1 vc1, .slice va2 n2 vc2, .slice none 0 0] ∧ LE ts q fun t => ∃ acc1 acc2, n2 = acc2.length ∧ (∃ vs2, FlowJ wx (R + 2) acc1 (.slice va1 n1 vc1) acc2 vs2 (.slice va2 n2 vc2)) ∧ flowR ts = (KJ acc1) (acc2, t))
      case first =>
        go_wp2_with fail
        go_loopg [] 17 (fun g wr => ∃ (q : QS) (va1 : Option Addr) (n1 vc1 : Nat) (va2 : Option Addr) (n2 vc2 : Nat), n2 ≤ 16 ∧ 16 - n2 ≤ g ∧ Aside (PS w R wr q [.slice va1 n1 vc1, .slice va2 n2 vc2, .slice none 0 0] ∧ LE ts q fun t => ∃ acc1 acc2, n2 = acc2.length ∧ (∃ vs2, FlowJ wr (R + 2) acc1 (.slice va1 n1 vc1) acc2 vs2 (.slice va2 n2 vc2)) ∧ ∃ f, t.length ≤ f ∧ flowR ts = (partsP wJob jobP f acc2 t).bind (KJ acc1)))
        case atStart =>
          obtain ⟨q, va1, n1, vc1, hS, hL⟩ := HC1.out
          refine ⟨q, va1, n1, vc1, none, 0, 0, by omega, by omega, hS, ?_⟩
          cases q with
          | error er => exact hL
          | ok t =>
            obtain ⟨acc1, hn, ⟨vs1, hF⟩, he⟩ := hL
            exact ⟨acc1, [], rfl, ⟨[], FlowJ.nil hF.at⟩, _, Nat.le_refl _, he⟩
        case round =>
          clear HC1
          obtain ⟨q, va1, n1, vc1, va2, n2, vc2, hn, hg, HH⟩ := hrel
          have hlo := HH.out.1.o.lt
          cases q with
          | error er =>
            have S := Hid.mk HH.out.1
            have HL : Hid (flowR ts = .error er) := Hid.mk HH.out.2
            clear HH
            go_wp2_with (go_at_call 10; refine (see_err (x := wJob) S.out.x (by decide)).mono ?_; rintro e w2 ⟨rfl, hb⟩; replace S := Hid.mk (S.out.below hb); clear hb)
            go_meet
            exact ⟨.error er, va1, n1, vc1, va2, n2, vc2, S.out, HL.out⟩
          | ok t =>
            have S := Hid.mk HH.out.1
            obtain ⟨acc1, acc2, hnl, ⟨vs2, hFL⟩, f, hf, hfl⟩ := HH.out.2
            have FL := Hid.mk hFL
            have HNL := Hid.mk hnl
            clear HH hFL
            by_cases hm : textT t = wJob
            · by_cases h16 : n2 = 16
              · as_aux_lemma =>
                  obtain ⟨f', rfl⟩ := fuel_succ (ne_nil S.out.x) hf
                  have HER : Hid (flowR ts = .error (4, hereT t)) := Hid.mk (by rw [hfl, parts_full hm (by rw [← hnl]; exact h16)]; rfl)
                  have hmb : (textT t == wJob) = true := by rw [hm]; rfl
                  subst h16
                  clear hfl hf hm hnl HNL FL
                  go_wp2_with (first | (go_at_call 10; refine (see_ok (x := wJob) S.out.x (by decide)).mono ?_; rintro e w2 ⟨rfl, hb⟩; replace S := Hid.mk (S.out.below hb); have co := S.out.o.cell 1 rfl; have lo := S.out.o.lt; clear hb) | (go_at_call 11; refine (failsx_any 4 R (.ok t) _ S.out.x).mono ?_; rintro e w3 ⟨rfl, hb, hx⟩; replace S := Hid.mk (S.out.call hR hb hx); clear hb hx))
                  go_meet
                  exact ⟨.error (4, hereT t), va1, n1, vc1, va2, _, vc2, S.out, HER.out⟩
              · as_aux_lemma =>
                  obtain ⟨f', rfl⟩ := fuel_succ (ne_nil S.out.x) hf
                  have HFL := Hid.mk hfl
                  have HF := Hid.mk hf
                  have HM := Hid.mk hm
                  have hmb : (textT t == wJob) = true := by rw [hm]; rfl
                  have hn16 : n2 < 16 := by omega
                  have hni : ¬ ((16 : Int) ≤ (n2 : Int)) := by omega
                  clear hfl hf hm hnl h16
                  go_wp2_with (go_at_call 10; refine (see_ok (x := wJob) S.out.x (by decide)).mono ?_; rintro e wl ⟨rfl, hb⟩; replace S := Hid.mk (S.out.below hb); replace FL := Hid.mk (FL.out.imp (keeps_below hb)); have co := S.out.o.cell 1 rfl; have fo := S.out.o.fz 1; have lo := S.out.o.lt; clear hb)
                  have OL : Hid (wl.ownsRow (R + 2) 61 15 (.slice va2 n2 vc2) n2 (jobsV acc2 vs2)) := Hid.mk (by have h := FL.out.row; rw [← HNL.out] at h; exact h)
                  have HC := Hid.mk (jobr_any R t wl.drew S.out.drew.x)
                  have hjl := jobV_len
                  have hjf := jobV_fold
                  go_region_law (first | (go_simp; go_at_call 13; refine HC.out.mono ?_; rintro e wa4 ⟨v, rfl, ⟨j0, vo0, vi0, vc0, rfl, ⟨oa0, on0, oc0, rfl⟩, ⟨ia0, in0, ic0, rfl⟩, ⟨ca0, cn0, cc0, rfl⟩⟩, hb4, hen4, hx4⟩; have S4 := Hid.mk (S.out.drew.call hR hb4 hx4); have c4 := S4.out.o.cell 1 rfl; have l4 := S4.out.o.lt; have OW4 := Hid.mk ((own_but (OL.out.drew) hb4 (by omega)).alloc (.cells (jobV j0 (.slice oa0 on0 oc0) (.slice ia0 in0 ic0) (.slice ca0 cn0 cc0)).toArray 61)); have FL4 := Hid.mk ((FL.out.imp (fun e z n v xs h => own_but (h.drew) hb4 (by omega))).imp (fun e z n v xs h => h.alloc (.cells (jobV j0 (.slice oa0 on0 oc0) (.slice ia0 in0 ic0) (.slice ca0 cn0 cc0)).toArray 61))); have EC4 : Hid (∀ a t', jobP t = .ok (a, t') → (jobV j0 (.slice oa0 on0 oc0) (.slice ia0 in0 ic0) (.slice ca0 cn0 cc0)) = (jobV a (.slice oa0 on0 oc0) (.slice ia0 in0 ic0) (.slice ca0 cn0 cc0)) ∧ encL (R + 2) a.outs (.slice oa0 on0 oc0) (wa4.alloc (.cells (jobV j0 (.slice oa0 on0 oc0) (.slice ia0 in0 ic0) (.slice ca0 cn0 cc0)).toArray 61)) ∧ encL (R + 2) a.ins (.slice ia0 in0 ic0) (wa4.alloc (.cells (jobV j0 (.slice oa0 on0 oc0) (.slice ia0 in0 ic0) (.slice ca0 cn0 cc0)).toArray 61)) ∧ encL (R + 2) a.cols (.slice ca0 cn0 cc0) (wa4.alloc (.cells (jobV j0 (.slice oa0 on0 oc0) (.slice ia0 in0 ic0) (.slice ca0 cn0 cc0)).toArray 61))) := Hid.mk (fun a t' h => (let ⟨e1, e2, e3, e4⟩ := enc_job (hen4 a t' h); And.intro e1 (And.intro ((own_mono (by simp only [World.drew] at *; omega) e2).alloc _) (And.intro ((own_mono (by simp only [World.drew] at *; omega) e3).alloc _) ((own_mono (by simp only [World.drew] at *; omega) e4).alloc _))))); clear hb4 hx4 hen4) | (refine step_append_lies _ (by rfl) _ _ _ (by rfl) (R + 2) 61 i2 _ 15 208 Tryz.underlying28 hi2 hz20 hz21 hz22 rfl (by omega) (.slice va2 n2 vc2) n2 _ (by rfl) OW4.out ⟨wa4.heap.size, 0, none⟩ 1 1 (jobV j0 (.slice oa0 on0 oc0) (.slice ia0 in0 ic0) (.slice ca0 cn0 cc0)) (by rfl) (by rfl) (news_blk wa4 (jobV j0 (.slice oa0 on0 oc0) (.slice ia0 in0 ic0) (.slice ca0 cn0 cc0)) 61 _ rfl) (by simp [jobV, Value.oneCell']) (by omega) (by unfold maxLen; omega) (by omega) (by simp; omega) (wa4.heap.size + 1) (by simp) ?_; intro gg cap wb5 hown5 hgrow5 hat5 hlt5; have S5 := Hid.mk ((S4.out.alloc (.cells (jobV j0 (.slice oa0 on0 oc0) (.slice ia0 in0 ic0) (.slice ca0 cn0 cc0)).toArray 61)).grown hR hgrow5 (fun k hk => (OW4.out.lt k hk).1)); have c5 := S5.out.o.cell 1 rfl; have f5 := S5.out.o.fz 1; have l5 := S5.out.o.lt; have FI5 : Hid (∀ a t', jobP t = .ok (a, t') → FlowJ wb5 (R + 2) acc1 (.slice va1 n1 vc1) (acc2 ++ [a]) (vs2 ++ [(.slice oa0 on0 oc0, .slice ia0 in0 ic0, .slice ca0 cn0 cc0)]) (.slice (some ⟨gg, 0, none⟩) (n2 + 1) cap)) := Hid.mk (fun a t' h => (by obtain ⟨e1, e2⟩ := EC4.out a t' h; have ho := hown5; rw [e1, HNL.out] at ho; exact FL4.out.step e2 hgrow5 (by rw [← HNL.out] at ho ⊢; exact ho))); clear hgrow5 hown5 hat5))
                  all_goals
                    have HST := Hid.mk (part_step (G := fun acc2 _ => ∃ vs2, FlowJ (wb5.setCell ⟨R + 1, 1, none⟩ (.slice (some ⟨gg, 0, none⟩) (n2 + 1) cap)) (R + 2) acc1 (.slice va1 n1 vc1) acc2 vs2 (.slice (some ⟨gg, 0, none⟩) (n2 + 1) cap)) HFL.out HM.out (by have := HNL.out; omega) (le_job t) (ne_nil S.out.x) HF.out (fun a t' h => ⟨_, (FI5.out a t' h).imp (fun e z n v xs h => ownsRow_setCell_below h (a := ⟨R + 1, 1, none⟩) (by show R + 1 < _; omega) _)⟩))
                    go_wp2_with fail
                    go_roundg (16 - (n2 + 1))
                    case measure => omega
                    case rel =>
                      refine ⟨_, va1, n1, vc1, some ⟨gg, 0, none⟩, n2 + 1, cap, by omega, Nat.le_refl _, S5.out.store hR 1 _, ?_⟩
                      have hst := HST.out
                      cases hp : jobP t with
                      | error er => rw [hp] at hst; exact hst
                      | ok y =>
                        obtain ⟨a, t'⟩ := y
                        rw [hp] at hst
                        obtain ⟨acc', hl, ⟨vs', hF⟩, f, hf, he⟩ := hst
                        exact ⟨acc1, acc', by have := HNL.out; omega, ⟨vs', hF⟩, f, hf, he⟩
            · as_aux_lemma =>
                obtain ⟨f', rfl⟩ := fuel_succ (ne_nil S.out.x) hf
                have HEQ : Hid (flowR ts = (KJ acc1) (acc2, t)) := Hid.mk (by rw [hfl, parts_no hm]; rfl)
                have hmb : (textT t == wJob) = false := by simp [hm]
                clear hfl hf hm hnl
                go_wp2_with (go_at_call 10; refine (see_ok (x := wJob) S.out.x (by decide)).mono ?_; rintro e w2 ⟨rfl, hb⟩; replace S := Hid.mk (S.out.below hb); replace FL := Hid.mk (FL.out.imp (keeps_below hb)); clear hb)
                go_meet
                exact ⟨.ok t, va1, n1, vc1, va2, n2, vc2, S.out, acc1, acc2, HNL.out, ⟨vs2, FL.out⟩, HEQ.out⟩
      case rest =>
        have HC2 := Hid.mk hcut
        clear hcut HC1
        go_upto_block 4 with fail
        go_cut [] (fun wx => ∃ (q : QS) (va1 : Option Addr) (n1 vc1 : Nat) (va2 : Option Addr) (n2 vc2 : Nat) (va3 : Option Addr) (n3 vc3 : Nat), PS w R wx q [.slice va1 n1 vc1, .slice va2 n2 vc2, .slice va3 n3 vc3] ∧ LE ts q fun t => ∃ acc1 acc2 acc3, n3 = acc3.length ∧ FlowO wx (R + 2) acc1 (.slice va1 n1 vc1) acc2 (.slice va2 n2 vc2) acc3 (.slice va3 n3 vc3) ∧ flowR ts = (KO acc1 acc2) (acc3, t))
        case first =>
          go_wp2_with fail
          go_loopg [] 17 (fun g wr => ∃ (q : QS) (va1 : Option Addr) (n1 vc1 : Nat) (va2 : Option Addr) (n2 vc2 : Nat) (va3 : Option Addr) (n3 vc3 : Nat), n3 ≤ 16 ∧ 16 - n3 ≤ g ∧ Aside (PS w R wr q [.slice va1 n1 vc1, .slice va2 n2 vc2, .slice va3 n3 vc3] ∧ LE ts q fun t => ∃ acc1 acc2 acc3, n3 = acc3.length ∧ FlowO wr (R + 2) acc1 (.slice va1 n1 vc1) acc2 (.slice va2 n2 vc2) acc3 (.slice va3 n3 vc3) ∧ ∃ f, t.length ≤ f ∧ flowR ts = (partsP wOut publishP f acc3 t).bind (KO acc1 acc2)))
          case atStart =>
            obtain ⟨q, va1, n1, vc1, va2, n2, vc2, hS, hL⟩ := HC2.out
            refine ⟨q, va1, n1, vc1, va2, n2, vc2, none, 0, 0, by omega, by omega, hS, ?_⟩
            cases q with
            | error er => exact hL
            | ok t =>
              obtain ⟨acc1, acc2, hn, ⟨vs2, hF⟩, he⟩ := hL
              exact ⟨acc1, acc2, [], rfl, FlowO.nil hF, _, Nat.le_refl _, he⟩
          case round =>
            clear HC2
            obtain ⟨q, va1, n1, vc1, va2, n2, vc2, va3, n3, vc3, hn, hg, HH⟩ := hrel
            have hlo := HH.out.1.o.lt
            cases q with
            | error er =>
              have S := Hid.mk HH.out.1
              have HL : Hid (flowR ts = .error er) := Hid.mk HH.out.2
              clear HH
              go_wp2_with (go_at_call 10; refine (see_err (x := wOut) S.out.x (by decide)).mono ?_; rintro e w2 ⟨rfl, hb⟩; replace S := Hid.mk (S.out.below hb); clear hb)
              go_meet
              exact ⟨.error er, va1, n1, vc1, va2, n2, vc2, va3, n3, vc3, S.out, HL.out⟩
            | ok t =>
              have S := Hid.mk HH.out.1
              obtain ⟨acc1, acc2, acc3, hnl, hFL, f, hf, hfl⟩ := HH.out.2
              have FL := Hid.mk hFL
              have HNL := Hid.mk hnl
              clear HH hFL
              by_cases hm : textT t = wOut
              · by_cases h16 : n3 = 16
                · as_aux_lemma =>
                    obtain ⟨f', rfl⟩ := fuel_succ (ne_nil S.out.x) hf
                    have HER : Hid (flowR ts = .error (4, hereT t)) := Hid.mk (by rw [hfl, parts_full hm (by rw [← hnl]; exact h16)]; rfl)
                    have hmb : (textT t == wOut) = true := by rw [hm]; rfl
                    subst h16
                    clear hfl hf hm hnl HNL FL
                    go_wp2_with (first | (go_at_call 10; refine (see_ok (x := wOut) S.out.x (by decide)).mono ?_; rintro e w2 ⟨rfl, hb⟩; replace S := Hid.mk (S.out.below hb); have co := S.out.o.cell 2 rfl; have lo := S.out.o.lt; clear hb) | (go_at_call 11; refine (failsx_any 4 R (.ok t) _ S.out.x).mono ?_; rintro e w3 ⟨rfl, hb, hx⟩; replace S := Hid.mk (S.out.call hR hb hx); clear hb hx))
                    go_meet
                    exact ⟨.error (4, hereT t), va1, n1, vc1, va2, n2, vc2, va3, _, vc3, S.out, HER.out⟩
                · as_aux_lemma =>
                    obtain ⟨f', rfl⟩ := fuel_succ (ne_nil S.out.x) hf
                    have HFL := Hid.mk hfl
                    have HF := Hid.mk hf
                    have HM := Hid.mk hm
                    have hmb : (textT t == wOut) = true := by rw [hm]; rfl
                    have hn16 : n3 < 16 := by omega
                    have hni : ¬ ((16 : Int) ≤ (n3 : Int)) := by omega
                    clear hfl hf hm hnl h16
                    have HNE := Hid.mk (ne_nil S.out.x)
                    have E : Hid (publishP t = Except.bind (.ok t : QS) fun t => (mustP wOut t).bind fun a => (nameP a.2).bind fun n => (mustP [61] n.2).bind fun q => (nameP q.2).bind fun f => (mustP [59] f.2).bind fun e => .ok (⟨a.1, n.1, f.1⟩, e.2)) := Hid.mk rfl
                    go_wp2_with (first | (go_at_call 10; refine (see_ok (x := wOut) S.out.x (by decide)).mono ?_; rintro e wl ⟨rfl, hb⟩; replace S := Hid.mk (S.out.below hb); replace FL := Hid.mk (FL.out.imp (keeps_below hb)); have co := S.out.o.cell 2 rfl; have lo := S.out.o.lt; obtain ⟨b3, o3, cc3, n3', hc3, hn3, hcc3, hR3, hn13, j0, j1, j2, e31, e32⟩ := RF.head (show RF wl R t none from S.out.x); have hbl3 : b3 < wl.heap.size := (by omega); clear hb hn3 j0 j1 e31 e32) | (go_at_call 14; fail))
                    clear co hc3 hcc3 hR3 hn13 j2 hbl3
                    have HX : Hid (R + 1 < wl.heap.size) := Hid.mk lo
                    replace S := Hid.mk (S.out.alloc (.cells #[.int .i64 (hereT t : Nat), .string ⟨#[]⟩, .string ⟨#[]⟩] 66))
                    have XB := Hid.mk (Box.new wl [.int .i64 (hereT t : Nat), .string ⟨#[]⟩, .string ⟨#[]⟩] 66 _ rfl)
                    have HBW := Hid.mk ((But.refl R wl).box (.cells #[.int .i64 (hereT t : Nat), .string ⟨#[]⟩, .string ⟨#[]⟩] 66))
                    refine (must_here wOut S.out.x (by decide) E.out).mono ?_
                    rintro e w3 ⟨q3, rfl, hb, hx, he⟩
                    dsimp only at he
                    replace E := Hid.mk he
                    replace S := Hid.mk (S.out.call hR hb hx)
                    replace XB := Hid.mk (XB.out.but hb (by omega))
                    replace HBW := Hid.mk (HBW.out.then hb)
                    clear hb hx he
                    go_wp2_with (go_at_call 15; fail)
                    refine (name_seq S.out.x E.out).mono ?_
                    rintro e w4 ⟨q4, s4, rfl, hsl, hb, hx, he⟩
                    dsimp only at he
                    replace E := Hid.mk he
                    replace S := Hid.mk (S.out.call hR hb hx)
                    replace XB := Hid.mk (XB.out.but hb (by omega))
                    replace HBW := Hid.mk (HBW.out.then hb)
                    clear hb hx he hsl
                    have x1 := XB.out.cell 1 rfl
                    have y1 := XB.out.fz 1
                    have z1 := XB.out.lt
                    replace S := Hid.mk (S.out.other hR wl.heap.size 1 HX.out (.string (ba s4)))
                    replace XB : Hid (Box (w4.setCell ⟨wl.heap.size, 1, none⟩ (.string (ba s4))) wl.heap.size [.int .i64 (hereT t : Nat), .string (ba s4), .string ⟨#[]⟩]) := Hid.mk (XB.out.set 1 (.string (ba s4)))
                    replace HBW := Hid.mk (HBW.out.put (k := wl.heap.size) (i := 1) (Nat.le_refl _) (.string (ba s4)))
                    go_wp2_with (go_at_call 14; fail)
                    clear x1 y1 z1
                    refine (must_seq [61] S.out.x (by decide) E.out (fun _ _ _ => rfl)).mono ?_
                    rintro e w5 ⟨q5, rfl, hb, hx, he⟩
                    dsimp only at he
                    replace E := Hid.mk he
                    replace S := Hid.mk (S.out.call hR hb hx)
                    replace XB := Hid.mk (XB.out.but hb (by omega))
                    replace HBW := Hid.mk (HBW.out.then hb)
                    clear hb hx he
                    cases q5 with
                    | error er =>
                      have HPE : Hid (publishP t = .error er) := Hid.mk E.out
                      clear E
                      go_wp2_with (go_at_call 16; refine (okx_err S.out.x).mono ?_; rintro e w6 ⟨rfl, hb⟩; replace S := Hid.mk (S.out.below hb); replace XB := Hid.mk (XB.out.below hb); replace HBW := Hid.mk (HBW.out.then (But.of hb)); clear hb)
                      go_wp2_with (go_at_call 14; fail)
                      refine (must_err [59] S.out.x (by decide)).mono ?_
                      rintro e w7 ⟨rfl, hb, hx⟩
                      replace S := Hid.mk (S.out.call hR hb hx)
                      replace XB := Hid.mk (XB.out.but hb (by omega))
                      replace HBW := Hid.mk (HBW.out.then hb)
                      clear hb hx
                      have x0 := XB.out.cell 0 rfl
                      have x1 := XB.out.cell 1 rfl
                      have x2 := XB.out.cell 2 rfl
                      have xl := XB.out.lt
                      have co := S.out.o.cell 2 rfl
                      have lo7 := S.out.o.lt
                      have FL7 := Hid.mk ((FL.out.imp (fun e z n v xs h => own_but h HBW.out (by omega))).imp (keeps_below (below_box w7 (.cells #[.int .i64 (hereT t : Nat), .string (ba s4), .string ⟨#[]⟩] 66))))
                      have O : Hid ((w7.alloc (.cells #[.int .i64 (hereT t : Nat), .string (ba s4), .string ⟨#[]⟩] 66)).ownsRow (R + 2) 66 3 (.slice va3 n3 vc3) n3 (outsV acc3)) := Hid.mk (by have h := FL7.out.row; rw [← HNL.out] at h; exact h)
                      replace S := Hid.mk (S.out.alloc (.cells #[.int .i64 (hereT t : Nat), .string (ba s4), .string ⟨#[]⟩] 66))
                      go_wp2_with (at_builtin; refine wpList_append_own _ rfl _ _ 29 rfl (R + 2) 66 i3 (.agg #[.int .i64 0, .string ⟨#[]⟩, .string ⟨#[]⟩]) 3 40 Tryz.underlying29 hi3 hz30 hz31 hz32 rfl (by decide) _ _ _ rfl O.out ⟨w7.heap.size, 0, none⟩ 1 1 [.int .i64 (hereT t : Nat), .string (ba s4), .string ⟨#[]⟩] rfl rfl (news_blk _ [.int .i64 (hereT t : Nat), .string (ba s4), .string ⟨#[]⟩] _ _ rfl) (by simp [Value.oneCell']) ?c3 ?c4 ?c5 ?_)
                      case c3 => unfold maxLen; omega
                      case c4 => omega
                      case c5 => simp; omega
                      intro v' w9 hown' hgrow _
                      obtain ⟨va', vc', rfl⟩ := own_slice hown'
                      replace S := Hid.mk (S.out.grown hR hgrow (fun k hk => (O.out.lt k hk).1))
                      have c9 := S.out.o.cell 2 rfl
                      have f9 := S.out.o.fz 2
                      have l9 := S.out.o.lt
                      clear hown' hgrow x0 x1 x2 xl co lo7 XB HBW FL7
                      go_wp2_with fail
                      go_roundg (16 - (n3 + 1))
                      case measure => omega
                      case rel =>
                        refine ⟨.error er, va1, n1, vc1, va2, n2, vc2, va', n3 + 1, vc', by omega, Nat.le_refl _, S.out.store hR 2 _, ?_⟩
                        show flowR ts = .error er
                        rw [HFL.out, parts_yes HM.out (by have := HNL.out; omega), HPE.out]
                        rfl
                    | ok t5 =>
                      go_wp2_with (go_at_call 16; refine (okx_ok S.out.x).mono ?_; rintro e w6 ⟨rfl, hb⟩; replace S := Hid.mk (S.out.below hb); replace XB := Hid.mk (XB.out.below hb); replace HBW := Hid.mk (HBW.out.then (But.of hb)); clear hb)
                      go_wp2_with (go_at_call 15; fail)
                      refine (name_seq S.out.x E.out).mono ?_
                      rintro e w8 ⟨q8, s8, rfl, hsl, hb, hx, he⟩
                      dsimp only at he
                      replace E := Hid.mk he
                      replace S := Hid.mk (S.out.call hR hb hx)
                      replace XB := Hid.mk (XB.out.but hb (by omega))
                      replace HBW := Hid.mk (HBW.out.then hb)
                      clear hb hx he hsl
                      have x2 := XB.out.cell 2 rfl
                      have y2 := XB.out.fz 2
                      have z2 := XB.out.lt
                      replace S := Hid.mk (S.out.other hR wl.heap.size 2 HX.out (.string (ba s8)))
                      replace XB : Hid (Box (w8.setCell ⟨wl.heap.size, 2, none⟩ (.string (ba s8))) wl.heap.size [.int .i64 (hereT t : Nat), .string (ba s4), .string (ba s8)]) := Hid.mk (XB.out.set 2 (.string (ba s8)))
                      replace HBW := Hid.mk (HBW.out.put (k := wl.heap.size) (i := 2) (Nat.le_refl _) (.string (ba s8)))
                      go_wp2_with (go_at_call 14; fail)
                      clear x2 y2 z2
                      refine (must_seq [59] S.out.x (by decide) E.out (fun _ _ _ => rfl)).mono ?_
                      rintro e w7 ⟨q7, rfl, hb, hx, he⟩
                      dsimp only at he
                      replace E := Hid.mk he
                      replace S := Hid.mk (S.out.call hR hb hx)
                      replace XB := Hid.mk (XB.out.but hb (by omega))
                      replace HBW := Hid.mk (HBW.out.then hb)
                      clear hb hx he
                      have x0 := XB.out.cell 0 rfl
                      have x1 := XB.out.cell 1 rfl
                      have x2 := XB.out.cell 2 rfl
                      have xl := XB.out.lt
                      have co := S.out.o.cell 2 rfl
                      have lo7 := S.out.o.lt
                      have FL7 := Hid.mk ((FL.out.imp (fun e z n v xs h => own_but h HBW.out (by omega))).imp (keeps_below (below_box w7 (.cells #[.int .i64 (hereT t : Nat), .string (ba s4), .string (ba s8)] 66))))
                      have O : Hid ((w7.alloc (.cells #[.int .i64 (hereT t : Nat), .string (ba s4), .string (ba s8)] 66)).ownsRow (R + 2) 66 3 (.slice va3 n3 vc3) n3 (outsV acc3)) := Hid.mk (by have h := FL7.out.row; rw [← HNL.out] at h; exact h)
                      replace S := Hid.mk (S.out.alloc (.cells #[.int .i64 (hereT t : Nat), .string (ba s4), .string (ba s8)] 66))
                      go_wp2_with (at_builtin; refine wpList_append_own _ rfl _ _ 29 rfl (R + 2) 66 i3 (.agg #[.int .i64 0, .string ⟨#[]⟩, .string ⟨#[]⟩]) 3 40 Tryz.underlying29 hi3 hz30 hz31 hz32 rfl (by decide) _ _ _ rfl O.out ⟨w7.heap.size, 0, none⟩ 1 1 [.int .i64 (hereT t : Nat), .string (ba s4), .string (ba s8)] rfl rfl (news_blk _ [.int .i64 (hereT t : Nat), .string (ba s4), .string (ba s8)] _ _ rfl) (by simp [Value.oneCell']) ?c3 ?c4 ?c5 ?_)
                      case c3 => unfold maxLen; omega
                      case c4 => omega
                      case c5 => simp; omega
                      intro v' w9 hown' hgrow _
                      obtain ⟨va', vc', rfl⟩ := own_slice hown'
                      replace S := Hid.mk (S.out.grown hR hgrow (fun k hk => (O.out.lt k hk).1))
                      have FLN := Hid.mk (FL7.out.step (o := ⟨hereT t, s4, s8⟩) hgrow (by rw [← HNL.out]; exact hown'))
                      have c9 := S.out.o.cell 2 rfl
                      have f9 := S.out.o.fz 2
                      have l9 := S.out.o.lt
                      clear hown' hgrow x0 x1 x2 xl co lo7 XB HBW FL7
                      go_wp2_with fail
                      go_roundg (16 - (n3 + 1))
                      case measure => omega
                      case rel =>
                        obtain ⟨g1, g2⟩ := seq_end E.out
                        have hst := part_step (G := fun acc' _ => FlowO (w9.setCell ⟨R + 1, 2, none⟩ (.slice va' (n3 + 1) vc')) (R + 2) acc1 (.slice va1 n1 vc1) acc2 (.slice va2 n2 vc2) acc' (.slice va' (n3 + 1) vc')) HFL.out HM.out (by have := HNL.out; omega) (le_publish t) (HNE.out) HF.out (fun a t' h => by
                          obtain ⟨rfl, -⟩ := g2 a t' h
                          exact FLN.out.imp (fun e z n v xs h => ownsRow_setCell_below h (a := ⟨R + 1, 2, none⟩) (by show R + 1 < _; omega) _))
                        rw [g1] at hst
                        refine ⟨q7, va1, n1, vc1, va2, n2, vc2, va', n3 + 1, vc', by omega, Nat.le_refl _, S.out.store hR 2 _, ?_⟩
                        cases q7 with
                        | error er => exact hst
                        | ok t' =>
                          obtain ⟨acc', hl, hF, f, hf, he⟩ := hst
                          exact ⟨acc1, acc2, acc', by have := HNL.out; omega, hF, f, hf, he⟩
              · as_aux_lemma =>
                  obtain ⟨f', rfl⟩ := fuel_succ (ne_nil S.out.x) hf
                  have HEQ : Hid (flowR ts = (KO acc1 acc2) (acc3, t)) := Hid.mk (by rw [hfl, parts_no hm]; rfl)
                  have hmb : (textT t == wOut) = false := by simp [hm]
                  clear hfl hf hm hnl
                  go_wp2_with (go_at_call 10; refine (see_ok (x := wOut) S.out.x (by decide)).mono ?_; rintro e w2 ⟨rfl, hb⟩; replace S := Hid.mk (S.out.below hb); replace FL := Hid.mk (FL.out.imp (keeps_below hb)); clear hb)
                  go_meet
                  exact ⟨.ok t, va1, n1, vc1, va2, n2, vc2, va3, n3, vc3, S.out, acc1, acc2, acc3, HNL.out, FL.out, HEQ.out⟩
        case rest =>
          have HC3 := Hid.mk hcut
          clear hcut HC2
          obtain ⟨q, va1, n1, vc1, va2, n2, vc2, va3, n3, vc3, hS, hL⟩ := HC3.out
          have S := Hid.mk hS
          obtain ⟨ts', hrf, hts'⟩ := hS.x.any
          obtain ⟨b3, o3, cc3, m3, hc3, hn3, hcc3, hR3, hn13, j0, j1, j2, e31, e32⟩ := hrf.head
          have hbl : b3 < wc.heap.size := by have := hrf.lt; omega
          have hKb : (kindT ts' = 4 → (((kindT ts' + 1 : Nat) : Int) != 5) = false) ∧ (kindT ts' ≠ 4 → (((kindT ts' + 1 : Nat) : Int) != 5) = true) := ⟨fun h => by rw [h]; rfl, fun h => by simp; omega⟩
          clear hS hrf hn3 j1 j2 e31 e32 HC3
          generalize hK1 : ((kindT ts' + 1 : Nat) : Int) = K1 at *
          cases q with
          | error er =>
            have HER : Hid (refF l = .error er) := Hid.mk (HFR.out.trans hL)
            clear hL
            by_cases hk : kindT ts' = 4
            · as_aux_lemma =>
                have kb := hKb.1 hk
                clear hKb hk hK1
                go_wp2_with (first | (go_at_call 11; refine (failsx_any 3 R _ _ S.out.x).mono ?_; rintro e w5 ⟨rfl, hb, hx⟩; replace S := Hid.mk (S.out.call hR hb hx); clear hb hx) | (go_at_call 16; refine (okx_err (er := er) S.out.x).mono ?_; rintro e w6 ⟨rfl, hb⟩; replace S : Hid (PS w R w6 (.error er) _) := Hid.mk (S.out.below hb); clear hb))
                have hf1 := S.out.r1.fz 0
                have hf2 := S.out.r1.fz 1
                have hf3 := S.out.r1.fz 2
                have hf4 := S.out.r2.fz 0
                have hf5 := S.out.r2.fz 1
                have hc1 := S.out.r1.cell 0 rfl
                have hc2 := S.out.r1.cell 1 rfl
                have hc3' := S.out.r1.cell 2 rfl
                have hc4 := S.out.r2.cell 0 rfl
                have hc5 := S.out.r2.cell 1 rfl
                have hl1 := S.out.r1.lt
                have hl2 := S.out.r2.lt
                obtain ⟨ts9, hrf9, -⟩ := S.out.x.any
                obtain ⟨-, -, -, -, -, -, -, -, -, -, -, -, e91, e92⟩ := hrf9.head
                have hl9 := hrf9.lt
                change w6.cell? ⟨R, 1, none⟩ = some (.int .i64 (er).1) at e91
                change w6.cell? ⟨R, 2, none⟩ = some (.int .i64 ((er).2 : Nat)) at e92
                clear hrf9
                obtain ⟨hA, hB, hC, -⟩ := res_w S.out.b S.out.r1 S.out.r2 (.slice none 0 0) (.slice none 0 0) (.slice none 0 0) (.int .i64 er.1) (.int .i64 (er.2 : Nat))
                have HA := Hid.mk hA
                have HB := Hid.mk hB
                have HBL := Hid.mk hC
                clear hA hB hC
                go_region
                go_wp2_with fail
                change bodyPost _ _ _ _ _ (resW w6 w.heap.size (.slice none 0 0) (.slice none 0 0) (.slice none 0 0) (.int .i64 er.1) (.int .i64 (er.2 : Nat)))
                generalize resW w6 w.heap.size (.slice none 0 0) (.slice none 0 0) (.slice none 0 0) (.int .i64 er.1) (.int .i64 (er.2 : Nat)) = WF at *
                refine bodyPost_ret (v := .tuple #[.agg #[.slice none 0 0, .slice none 0 0, .slice none 0 0], .agg #[.int .i64 er.1, .int .i64 (er.2 : Nat)]]) (results_cell2 rfl _ _ _ rfl rfl (load_flow HA.out) (load_fault HB.out)) rfl ?_
                exact ⟨Or.inr ⟨er, HER.out, rfl⟩, HBL.out⟩
            · as_aux_lemma =>
                have kb := hKb.2 hk
                clear hKb hk hK1
                go_wp2_with (first | (go_at_call 11; refine (failsx_any 3 R _ _ S.out.x).mono ?_; rintro e w5 ⟨rfl, hb, hx⟩; replace S := Hid.mk (S.out.call hR hb hx); clear hb hx) | (go_at_call 16; refine (okx_err (er := er) S.out.x).mono ?_; rintro e w6 ⟨rfl, hb⟩; replace S : Hid (PS w R w6 (.error er) _) := Hid.mk (S.out.below hb); clear hb))
                have hf1 := S.out.r1.fz 0
                have hf2 := S.out.r1.fz 1
                have hf3 := S.out.r1.fz 2
                have hf4 := S.out.r2.fz 0
                have hf5 := S.out.r2.fz 1
                have hc1 := S.out.r1.cell 0 rfl
                have hc2 := S.out.r1.cell 1 rfl
                have hc3' := S.out.r1.cell 2 rfl
                have hc4 := S.out.r2.cell 0 rfl
                have hc5 := S.out.r2.cell 1 rfl
                have hl1 := S.out.r1.lt
                have hl2 := S.out.r2.lt
                obtain ⟨ts9, hrf9, -⟩ := S.out.x.any
                obtain ⟨-, -, -, -, -, -, -, -, -, -, -, -, e91, e92⟩ := hrf9.head
                have hl9 := hrf9.lt
                change w6.cell? ⟨R, 1, none⟩ = some (.int .i64 (er).1) at e91
                change w6.cell? ⟨R, 2, none⟩ = some (.int .i64 ((er).2 : Nat)) at e92
                clear hrf9
                obtain ⟨hA, hB, hC, -⟩ := res_w S.out.b S.out.r1 S.out.r2 (.slice none 0 0) (.slice none 0 0) (.slice none 0 0) (.int .i64 er.1) (.int .i64 (er.2 : Nat))
                have HA := Hid.mk hA
                have HB := Hid.mk hB
                have HBL := Hid.mk hC
                clear hA hB hC
                go_region
                go_wp2_with fail
                change bodyPost _ _ _ _ _ (resW w6 w.heap.size (.slice none 0 0) (.slice none 0 0) (.slice none 0 0) (.int .i64 er.1) (.int .i64 (er.2 : Nat)))
                generalize resW w6 w.heap.size (.slice none 0 0) (.slice none 0 0) (.slice none 0 0) (.int .i64 er.1) (.int .i64 (er.2 : Nat)) = WF at *
                refine bodyPost_ret (v := .tuple #[.agg #[.slice none 0 0, .slice none 0 0, .slice none 0 0], .agg #[.int .i64 er.1, .int .i64 (er.2 : Nat)]]) (results_cell2 rfl _ _ _ rfl rfl (load_flow HA.out) (load_fault HB.out)) rfl ?_
                exact ⟨Or.inr ⟨er, HER.out, rfl⟩, HBL.out⟩
          | ok t =>
            obtain rfl := hts' t rfl
            obtain ⟨acc1, acc2, acc3, hnl, hFL, hfl⟩ := hL
            by_cases hk : kindT t = 4
            · as_aux_lemma =>
                have kb := hKb.1 hk
                have HOK : Hid (refF l = .ok ⟨acc1, acc2, acc3⟩) := Hid.mk (by rw [HFR.out, hfl]; show lastR _ t = _; unfold lastR; rw [if_neg (by simp [hk])])
                have FL := Hid.mk hFL
                clear hKb hk hK1 hFL hfl hnl
                go_wp2_with (go_at_call 16; refine (okx_ok S.out.x).mono ?_; rintro e w6 ⟨rfl, hb⟩; replace S := Hid.mk (S.out.below hb); replace FL := Hid.mk (FL.out.imp (keeps_below hb)); clear hb)
                have hf1 := S.out.r1.fz 0
                have hf2 := S.out.r1.fz 1
                have hf3 := S.out.r1.fz 2
                have hf4 := S.out.r2.fz 0
                have hf5 := S.out.r2.fz 1
                have hc1 := S.out.r1.cell 0 rfl
                have hc2 := S.out.r1.cell 1 rfl
                have hc3' := S.out.r1.cell 2 rfl
                have hc4 := S.out.r2.cell 0 rfl
                have hc5 := S.out.r2.cell 1 rfl
                have hl1 := S.out.r1.lt
                have hl2 := S.out.r2.lt
                have co0 := S.out.o.cell 0 rfl
                have co1 := S.out.o.cell 1 rfl
                have co2 := S.out.o.cell 2 rfl
                have lo := S.out.o.lt
                obtain ⟨g0, g1, gs⟩ := HG.out w6 S.out.x.env
                have hgo := (S.out.x.any).choose_spec.1.out 0 (by simp [refVars])
                have hgw := HGW.out
                obtain ⟨hA, hB, hC, hK⟩ := res_w S.out.b S.out.r1 S.out.r2 (.slice va1 n1 vc1) (.slice va2 n2 vc2) (.slice va3 n3 vc3) (.int .i64 0) (.int .i64 (-1))
                have FLN := Hid.mk ((FL.out.imp (hK (R + 2) (by omega))).mono (show w.heap.size ≤ R + 2 by omega))
                have HA := Hid.mk hA
                have HB := Hid.mk hB
                have HBL := Hid.mk hC
                clear hA hB hC hK
                go_region
                go_wp2_with fail
                change bodyPost _ _ _ _ _ (resW w6 w.heap.size (.slice va1 n1 vc1) (.slice va2 n2 vc2) (.slice va3 n3 vc3) (.int .i64 0) (.int .i64 (-1)))
                generalize resW w6 w.heap.size (.slice va1 n1 vc1) (.slice va2 n2 vc2) (.slice va3 n3 vc3) (.int .i64 0) (.int .i64 (-1)) = WF at *
                refine bodyPost_ret (v := .tuple #[.agg #[.slice va1 n1 vc1, .slice va2 n2 vc2, .slice va3 n3 vc3], .agg #[.int .i64 0, .int .i64 (-1)]]) (results_cell2 rfl _ _ _ rfl rfl (load_flow HA.out) (load_fault HB.out)) rfl ?_
                exact ⟨Or.inl ⟨⟨acc1, acc2, acc3⟩, _, _, _, HOK.out, rfl, FLN.out⟩, HBL.out⟩
            · as_aux_lemma =>
                have kb := hKb.2 hk
                have HER : Hid (refF l = .error (3, hereT t)) := Hid.mk (by rw [HFR.out, hfl]; show lastR _ t = _; unfold lastR; rw [if_pos hk])
                clear hKb hk hK1 hFL hfl hnl
                go_wp2_with (first | (go_at_call 11; refine (failsx_any 3 R _ _ S.out.x).mono ?_; rintro e w5 ⟨rfl, hb, hx⟩; replace S := Hid.mk (S.out.call hR hb hx); clear hb hx) | (go_at_call 16; refine (okx_err (er := (3, hereT t)) S.out.x).mono ?_; rintro e w6 ⟨rfl, hb⟩; replace S : Hid (PS w R w6 (.error (3, hereT t)) _) := Hid.mk (S.out.below hb); clear hb))
                have hf1 := S.out.r1.fz 0
                have hf2 := S.out.r1.fz 1
                have hf3 := S.out.r1.fz 2
                have hf4 := S.out.r2.fz 0
                have hf5 := S.out.r2.fz 1
                have hc1 := S.out.r1.cell 0 rfl
                have hc2 := S.out.r1.cell 1 rfl
                have hc3' := S.out.r1.cell 2 rfl
                have hc4 := S.out.r2.cell 0 rfl
                have hc5 := S.out.r2.cell 1 rfl
                have hl1 := S.out.r1.lt
                have hl2 := S.out.r2.lt
                obtain ⟨ts9, hrf9, -⟩ := S.out.x.any
                obtain ⟨-, -, -, -, -, -, -, -, -, -, -, -, e91, e92⟩ := hrf9.head
                have hl9 := hrf9.lt
                change w6.cell? ⟨R, 1, none⟩ = some (.int .i64 ((3, hereT t)).1) at e91
                change w6.cell? ⟨R, 2, none⟩ = some (.int .i64 (((3, hereT t)).2 : Nat)) at e92
                clear hrf9
                obtain ⟨hA, hB, hC, -⟩ := res_w S.out.b S.out.r1 S.out.r2 (.slice none 0 0) (.slice none 0 0) (.slice none 0 0) (.int .i64 3) (.int .i64 (hereT t : Nat))
                have HA := Hid.mk hA
                have HB := Hid.mk hB
                have HBL := Hid.mk hC
                clear hA hB hC
                go_region
                go_wp2_with fail
                change bodyPost _ _ _ _ _ (resW w6 w.heap.size (.slice none 0 0) (.slice none 0 0) (.slice none 0 0) (.int .i64 3) (.int .i64 (hereT t : Nat)))
                generalize resW w6 w.heap.size (.slice none 0 0) (.slice none 0 0) (.slice none 0 0) (.int .i64 3) (.int .i64 (hereT t : Nat)) = WF at *
                refine bodyPost_ret (v := .tuple #[.agg #[.slice none 0 0, .slice none 0 0, .slice none 0 0], .agg #[.int .i64 3, .int .i64 (hereT t : Nat)]]) (results_cell2 rfl _ _ _ rfl rfl (load_flow HA.out) (load_fault HB.out)) rfl ?_
                exact ⟨Or.inr ⟨(3, hereT t), HER.out, rfl⟩, HBL.out⟩
end Go.Proofs.YtedflhiflomoeaaGreatDoor

