import Derived.Test.YtjceppinfjbegaaGreatDoorWalkM
set_option linter.unusedSimpArgs false
set_option linter.unusedVariables false
namespace Go.Proofs.YtjceppinfjbegaaGreatDoor
open Go.RowKit

theorem lines_more {cs : List Cl} {f : Nat} {acc : List (List V3)} {rest : List UInt8} {row : List V3} (hr : rest ≠ []) (h : rowRead cs (Lib.cut rest [10]).1 false = some row) (h60 : acc.length ≠ 60) : linesRead cs (f + 1) acc rest true = linesRead cs f (acc ++ [row]) (Lib.cut rest [10]).2.1 (Lib.cut rest [10]).2.2 := by
  simp [linesRead, hr, h, h60]
theorem lines_bad {cs : List Cl} {f : Nat} {acc : List (List V3)} {rest : List UInt8} (hr : rest ≠ []) (h : rowRead cs (Lib.cut rest [10]).1 false = none) : linesRead cs (f + 1) acc rest true = .error (3, 1 + acc.length) := by
  simp [linesRead, hr, h]
theorem lines_full {cs : List Cl} {f : Nat} {acc : List (List V3)} {rest : List UInt8} {row : List V3} (hr : rest ≠ []) (h : rowRead cs (Lib.cut rest [10]).1 false = some row) (h60 : acc.length = 60) : linesRead cs (f + 1) acc rest true = .error (4, 1 + acc.length) := by
  simp [linesRead, hr, h, h60]
theorem lines_end {cs : List Cl} {f : Nat} {acc : List (List V3)} : linesRead cs (f + 1) acc [] true = .ok acc := by simp [linesRead]
theorem lines_cut {cs : List Cl} {f : Nat} {acc : List (List V3)} {rest : List UInt8} : linesRead cs (f + 1) acc rest false = .error (3, 1 + acc.length) := by simp [linesRead]
theorem cut_less (rest : List UInt8) (h : rest ≠ []) : (Lib.cut rest [10]).2.1.length < rest.length := by
  have : 0 < rest.length := List.length_pos_iff.2 h
  unfold Lib.cut
  split
  · simp; omega
  · simpa using this

set_option maxRecDepth 100000 in
set_option maxHeartbeats 3200000 in
theorem parse_any (s : ByteArray) (w : World) (hs : s.size ≤ 100000) (hE : Env w) :
    Calls Tryz.prog 57 #[.string s] w fun e w' => Below w.heap.size w w' ∧ parseEnd e w' (parseT s.data.toList) := by
  have HE := Hid.mk hE
  clear hE
  have hE0 : Env (w.alloc (.cells #[.slice none 0 0, .slice none 0 0] 36)) := HE.out.below (below_box _ _)
  have HC0 := Hid.mk (cut_any s ⟨#[10]⟩ (w.alloc (.cells #[.slice none 0 0, .slice none 0 0] 36)) (by omega) hE0)
  have HE0 := Hid.mk hE0
  clear hE0
  go_enter Tryz.func57, Tryz.ntmps57
  go_wp2_with (first | (go_at_call 94; refine HC0.out.mono ?_; rintro e w1 ⟨rfl, hb1⟩; obtain ⟨hc1, hf1⟩ := bcell hb1) | (go_at_call 95; fail))
  have hcl := cut_len s.data.toList [10]
  have hsl : s.data.toList.length = s.size := by simp
  generalize hx : Lib.cut s.data.toList [10] = x at *
  obtain ⟨h, r, en⟩ := x
  have HX := Hid.mk (parseT_of hx)
  have hhl : h.length ≤ 100000 := by have := hcl.1; simp only at this; omega
  have hrl : r.length ≤ s.size := by have := hcl.2; simp only at this; omega
  have HSL := Hid.mk hsl
  clear hx hcl hsl HC0
  have HE1 := Hid.mk (HE0.out.below hb1)
  have hR : w.heap.size < w1.heap.size := by have := hb1.size; simp at this; omega
  have q0 : w1.cell? ⟨w.heap.size, 0, none⟩ = some (.slice none 0 0) := (hc1 _ _ (by simp)).trans (by simp)
  have q1 : w1.cell? ⟨w.heap.size, 1, none⟩ = some (.slice none 0 0) := (hc1 _ _ (by simp)).trans (by simp)
  have z0 : w1.frozen? ⟨w.heap.size, 0, none⟩ = false := (hf1 _ _ (by simp)).trans (by simp)
  have z1 : w1.frozen? ⟨w.heap.size, 1, none⟩ = false := (hf1 _ _ (by simp)).trans (by simp)
  have b1 : Below w.heap.size w w1 := (below_box w _).trans (hb1.mono (by simp))
  have HB1 := Hid.mk b1
  clear hc1 hf1 hb1 b1
  refine (parseCols_any ⟨h.toArray⟩ w1 (by simp [ByteArray.size]; omega) HE1.out).mono ?_
  rintro e w2 ⟨hb2, hce⟩
  unfold colsEnd at hce
  obtain ⟨hc2, hf2⟩ := bcell hb2
  have s2 := hb2.size
  have hR2 : w.heap.size < w2.heap.size := by omega
  by_cases g : rightColsB (colsOf ⟨h.toArray⟩) = true
  · rw [if_pos g] at hce
    obtain ⟨vc, rfl, hoc, hzc⟩ := hce
    have HX2 := HX.out
    rw [if_pos g] at HX2
    have HX3 := Hid.mk HX2
    have hlen := rightCols_len g
    clear HX HX2
    generalize colsOf ⟨h.toArray⟩ = cs at *
    have hcis := cols_of_own hoc hzc
    obtain ⟨-, hoc0 | ⟨g1, cap, cur, rfl, hg1, hh1, hcap, -⟩⟩ := id hoc
    · omega
    · have hgl := (hoc.lt g1 rfl).2
      have hat : ColsAt w2 g1 0 cs := by
        obtain ⟨a, c, e1, -, -, hh⟩ := hcis
        rcases hh with hh | ⟨b, o, e2, hl, hat⟩
        · rw [hh] at hlen; simp at hlen
        · rw [e2] at e1; simp only [Value.slice.injEq, Option.some.injEq, Addr.mk.injEq, and_true, true_and] at e1
          obtain ⟨⟨rfl, rfl⟩, -⟩ := e1
          exact hat
      have HOC := Hid.mk hoc
      have HAT := Hid.mk hat
      have HZC := Hid.mk hzc
      clear hoc hat hzc hcis hh1 cur
      have q0' := (hc2 _ 0 hR).trans q0
      have q1' := (hc2 _ 1 hR).trans q1
      have z0' := (hf2 _ 0 hR).trans z0
      have z1' := (hf2 _ 1 hR).trans z1
      have hb2' := Hid.mk hb2
      clear hc2 hf2 hb2 q0 q1 z0 z1
      go_wp2
      obtain ⟨W, hW⟩ : ∃ W, W = w2.alloc (.cells #[.slice (some ⟨g1, 0, none⟩) cs.length cap, .slice none 0 0] 36) := ⟨_, rfl⟩
      rw [← hW]
      have hbW : Below w2.heap.size w2 W := by rw [hW]; exact below_box _ _
      have hM0 : TabMem W W w2.heap.size (.slice (some ⟨g1, 0, none⟩) cs.length cap) (.slice none 0 0) [] [] := by
        rw [hW]
        exact ⟨by simp, by simp, by simp, by simp, World.ownsRow_nil _ _ _ _, ⟨rfl, fun j hj => absurd hj (by simp)⟩, by simp, Below.refl _ _⟩
      have HBW := Hid.mk (bel_then (bel_then HB1.out hb2'.out) hbW)
      have HEW := Hid.mk ((HE1.out.below hb2'.out).below hbW)
      have HATW := Hid.mk (HAT.out.below hbW hgl)
      have HOCW := Hid.mk (owns_below HOC.out hbW)
      have y0 := (hbW.cell (p := ⟨w.heap.size, 0, none⟩) hR2).trans q0'
      have y1 := (hbW.cell (p := ⟨w.heap.size, 1, none⟩) hR2).trans q1'
      have x0 := (hbW.frozen (p := ⟨w.heap.size, 0, none⟩) hR2).trans z0'
      have x1 := (hbW.frozen (p := ⟨w.heap.size, 1, none⟩) hR2).trans z1'
      have Y0 := Hid.mk y0
      have Y1 := Hid.mk y1
      have X0 := Hid.mk x0
      have X1 := Hid.mk x1
      clear y0 y1 x0 x1 q0' q1' z0' z1' hW hb2' HE0 HE1 HB1 HOC HAT
      obtain ⟨i0, hi, hz0, hz1, hz2⟩ := info_parts Tryz.infoRow
      have HMS := Hid.mk hM0
      clear hM0 hbW
      go_loopw [5, 6] (fun rv mv wr => ∃ (rest : List UInt8) (en' : Bool) (acc : List (List V3)) (us : List Value) (vr : Value) (f : Nat), rv = .string ⟨rest.toArray⟩ ∧ mv = .bool en' ∧ rest.length < f ∧ rest.length ≤ 100000 ∧ acc.length ≤ 60 ∧ linesRead cs (s.data.toList.length + 1) [] r en = linesRead cs f acc rest en' ∧ TabMem wr W w2.heap.size (.slice (some ⟨g1, 0, none⟩) cs.length cap) vr us acc) (fun rv _ _ => strLen rv)
      case atStart => exact ⟨r, en, [], [], _, s.data.toList.length + 1, rfl, rfl, by have := HSL.out; omega, by omega, by simp, rfl, HMS.out⟩
      case round =>
        obtain ⟨rest, en', acc, us, vr, f, rfl, rfl, hf, hrl', h60, hlin, hmem⟩ := hrel
        obtain ⟨f, rfl⟩ : ∃ f', f = f' + 1 := ⟨f - 1, by omega⟩
        have HM := Hid.mk hmem
        have HLIN := Hid.mk hlin
        obtain ⟨m1, m2, m3, m4, m5, -, -, m8⟩ := hmem
        obtain ⟨va, vcap, rfl⟩ : ∃ a c, vr = .slice a acc.length c := by
          obtain ⟨-, ⟨rfl, hn⟩ | ⟨g, cp, cur, rfl, -⟩⟩ := m5
          · exact ⟨none, 0, by rw [hn]⟩
          · exact ⟨_, _, rfl⟩
        have HOWN := Hid.mk m5
        have M8 := Hid.mk m8
        clear hlin m5 m8
        have r0 := (M8.out.cell (p := ⟨w.heap.size, 0, none⟩) hR2).trans Y0.out
        have r1 := (M8.out.cell (p := ⟨w.heap.size, 1, none⟩) hR2).trans Y1.out
        have fz0 := (M8.out.frozen (p := ⟨w.heap.size, 0, none⟩) hR2).trans X0.out
        have fz1 := (M8.out.frozen (p := ⟨w.heap.size, 1, none⟩) hR2).trans X1.out
        have hRr : w.heap.size < wr.heap.size := by omega
        have bwr : Below w.heap.size w wr := HBW.out.trans (M8.out.mono (by omega))
        have BWR := Hid.mk bwr
        clear bwr
        cases en'
        · go_wp2_with (go_at_call 96; refine (wrong_any _ _ _).mono ?_; rintro e w3 ⟨rfl, hw, hw0, hw1, hb3⟩; obtain ⟨hc3, hf3⟩ := bcell hb3)
          have c0 := (hc3 w.heap.size 0 hRr).trans r0
          have c1 := (hc3 w.heap.size 1 hRr).trans r1
          clear hc3 hf3
          refine bodyPost_ret (v := .tuple #[.agg #[.slice none 0 0, .slice none 0 0], .iface 150 (.pointer (some ⟨wr.heap.size + 1, 0, none⟩))]) (by simp [results, Tryz.results57, go_sem, c0, c1]) rfl ⟨?_, ?_⟩
          · exact ((bel_then BWR.out hb3).setCell (Nat.le_refl _) _).setCell (Nat.le_refl _) _
          · rw [HX3.out, HLIN.out, lines_cut]
            exact bad_end (p := 1 + acc.length) hw (by omega) hw0 (by rw [Int.natCast_add]; exact hw1)
        · by_cases hre : rest = []
          · subst hre
            go_wp2
            refine bodyPost_ret (v := .tuple #[.agg #[.slice (some ⟨g1, 0, none⟩) cs.length cap, .slice va acc.length vcap], .nilIface]) (by simp [results, Tryz.results57, go_sem, r0, r1]) rfl ⟨?_, ?_⟩
            · exact (BWR.out.setCell (Nat.le_refl _) _).setCell (Nat.le_refl _) _
            · rw [HX3.out, HLIN.out, lines_end]
              obtain ⟨-, -, -, -, m5, m6, m7, m8⟩ := HM.out
              refine ⟨_, _, rfl, ?_, ?_⟩
              · refine cols_of_own (base := w1.heap.size) ?_ HZC.out
                refine ownsRow_setCell_below (ownsRow_setCell_below (own_belowB HOCW.out m8 (fun k hk => ?_)) (by exact hR) _) (by exact hR) _
                simp only [Value.ownBlock, Option.some.injEq] at hk
                omega
              · exact rows_of_mem (tb := w2.heap.size) (ownsRow_setCell_below (ownsRow_setCell_below m5 (by show w.heap.size < _; omega) _) (by show w.heap.size < _; omega) _) (rows_set (rows_set m6 (by omega)) (by omega)) m7
          · have hie : rest.isEmpty = false := by cases rest <;> simp_all
            have hxl := cut_len rest [10]
            have HLS := Hid.mk (cut_less rest hre)
            have HCUT : Hid (Calls Tryz.prog 94 #[.string ⟨rest.toArray⟩, .string ⟨#[10]⟩] wr fun e w' => e = .returned (.tuple #[.string ⟨(Lib.cut rest [10]).1.toArray⟩, .string ⟨(Lib.cut rest [10]).2.1.toArray⟩, .bool (Lib.cut rest [10]).2.2]) ∧ Below wr.heap.size wr w') := cut_any ⟨rest.toArray⟩ ⟨#[10]⟩ wr (by simp [ByteArray.size]; omega) (HE.out.below BWR.out)
            go_wp2_with (first | (go_at_call 94; refine HCUT.out.mono ?_; rintro e w3 ⟨rfl, hb3⟩; obtain ⟨hc3, hf3⟩ := bcell hb3) | (go_at_call 97; fail))
            have hg3 : g1 < w3.heap.size := by have := hb3.size; omega
            have HPR := Hid.mk (parseRow_in ⟨(Lib.cut rest [10]).1.toArray⟩ g1 0 cs.length cap cs w3 (by simp [ByteArray.size]; omega) ((HE.out.below BWR.out).below hb3) rfl (by omega) hg3 ((HATW.out.below M8.out hgl).below hb3 (by omega)))
            refine HPR.out.mono ?_
            rintro e w4 ⟨hb4, hre4⟩
            clear HPR HCUT
            obtain ⟨hc4, hf4⟩ := bcell hb4
            have hR3 : w.heap.size < w3.heap.size := by have := hb3.size; omega
            have hR4 : w.heap.size < w4.heap.size := by have := hb4.size; omega
            have ht3 : w2.heap.size < w3.heap.size := by have := hb3.size; omega
            have ht4 : w2.heap.size < w4.heap.size := by have := hb4.size; omega
            have b4 := Hid.mk (bel_then (bel_then BWR.out hb3) hb4)
            rw [show (ByteArray.mk (Lib.cut rest [10]).1.toArray).data.toList = (Lib.cut rest [10]).1 from rfl] at hre4
            cases hrow : rowRead cs (Lib.cut rest [10]).1 false with
            | none =>
              rw [hrow] at hre4
              have hre5 : e = _ := hre4
              subst hre5
              have HROW := Hid.mk hrow
              clear hre4 hrow
              go_wp2_with (go_at_call 96; refine (wrong_any _ _ _).mono ?_; rintro e w5 ⟨rfl, hw, hw0, hw1, hb5⟩; obtain ⟨hc5, hf5⟩ := bcell hb5)
              have c0 := (hc5 w.heap.size 0 hR4).trans ((hc4 _ _ hR3).trans ((hc3 _ _ hRr).trans r0))
              have c1 := (hc5 w.heap.size 1 hR4).trans ((hc4 _ _ hR3).trans ((hc3 _ _ hRr).trans r1))
              clear hc3 hf3 hc4 hf4 hc5 hf5
              refine bodyPost_ret (v := .tuple #[.agg #[.slice none 0 0, .slice none 0 0], .iface 150 (.pointer (some ⟨w4.heap.size + 1, 0, none⟩))]) (by simp [results, Tryz.results57, go_sem, c0, c1]) rfl ⟨?_, ?_⟩
              · exact ((bel_then b4.out hb5).setCell (Nat.le_refl _) _).setCell (Nat.le_refl _) _
              · rw [HX3.out, HLIN.out, lines_bad hre HROW.out]
                exact bad_end (p := 1 + acc.length) hw (by omega) hw0 (by rw [Int.natCast_add]; exact hw1)
            | some row =>
              rw [hrow] at hre4
              obtain ⟨u, rfl, hu, hru⟩ := hre4
              obtain ⟨ua, ucap, hue⟩ : ∃ a c, u = .slice a row.length c := by
                obtain ⟨-, ⟨rfl, hn⟩ | ⟨g, cp, cur, rfl, -⟩⟩ := hu
                · exact ⟨none, 0, by rw [hn]⟩
                · exact ⟨_, _, rfl⟩
              subst hue
              have HROW := Hid.mk hrow
              have HU := Hid.mk hu
              clear hrow hu
              by_cases h60' : acc.length = 60
              · have e60 : ((acc.length : Int) == 60) = true := by simp; omega
                go_wp2_with (go_at_call 96; refine (wrong_any _ _ _).mono ?_; rintro e w5 ⟨rfl, hw, hw0, hw1, hb5⟩; obtain ⟨hc5, hf5⟩ := bcell hb5)
                have c0 := (hc5 w.heap.size 0 hR4).trans ((hc4 _ _ hR3).trans ((hc3 _ _ hRr).trans r0))
                have c1 := (hc5 w.heap.size 1 hR4).trans ((hc4 _ _ hR3).trans ((hc3 _ _ hRr).trans r1))
                clear hc3 hf3 hc4 hf4 hc5 hf5
                refine bodyPost_ret (v := .tuple #[.agg #[.slice none 0 0, .slice none 0 0], .iface 150 (.pointer (some ⟨w4.heap.size + 1, 0, none⟩))]) (by simp [results, Tryz.results57, go_sem, c0, c1]) rfl ⟨?_, ?_⟩
                · exact ((bel_then b4.out hb5).setCell (Nat.le_refl _) _).setCell (Nat.le_refl _) _
                · rw [HX3.out, HLIN.out, lines_full hre HROW.out h60']
                  exact bad_end (p := 1 + acc.length) hw (by omega) hw0 (by rw [h60']; exact hw1)
              · have e60 : ((acc.length : Int) == 60) = false := by simp; omega
                have HMORE := Hid.mk (lines_more (f := f) hre HROW.out h60')
                go_wp2_with (at_builtin; refine wpList_append_own _ rfl _ _ 34 rfl (w2.heap.size + 1) 62 i0 (.slice none 0 0) 1 24 Tryz.underlying34 hi hz0 hz1 hz2 rfl (by decide) _ _ _ rfl ((owns_below (owns_below HOWN.out hb3) hb4).alloc _) ⟨w4.heap.size, 0, none⟩ 1 1 [.slice ua row.length ucap] rfl rfl ?c1 ?c2 ?c3 ?c4 ?c5 ?_)
                case c1 =>
                  intro j u hj
                  match j, hj with
                  | 0, hj => simp at hj; subst hj; simp [Addr.add]
                case c2 => intro u hu; simp at hu; subst hu; rfl
                case c3 => unfold maxLen; omega
                case c4 => omega
                case c5 => simp; omega
                · intro v' w5 hown' hgrow _
                  have hst := tab_step HM.out hb3 hb4 HU.out hru _ hown' hgrow
                  obtain ⟨va', vcap', rfl⟩ : ∃ a c, v' = .slice a (acc.length + 1) c := by
                    obtain ⟨-, ⟨rfl, hn⟩ | ⟨g, cp, cur, rfl, -⟩⟩ := hown'
                    · omega
                    · exact ⟨_, _, rfl⟩
                  have HST := Hid.mk hst
                  have hne : some w2.heap.size ≠ (Value.slice va acc.length vcap).ownBlock := fun e => by have := (HOWN.out.lt _ e.symm).1; omega
                  have t1 : w5.cell? ⟨w2.heap.size, 1, none⟩ = some (.slice va acc.length vcap) := hgrow.cell (a := ⟨w2.heap.size, 1, none⟩) (by rw [World.cell?_alloc_past _ _ _ ht4]; exact (hc4 _ _ ht3).trans ((hc3 _ _ m1).trans m3)) hne
                  have t2 : w5.frozen? ⟨w2.heap.size, 1, none⟩ = false := by
                    rw [World.frozen?_of_block (w := w4.alloc _) (w' := w5) (a := ⟨w2.heap.size, 1, none⟩) (hgrow.block w2.heap.size (by simp; omega) hne)]
                    rw [World.frozen?_of_block (w := w4) (w' := w4.alloc _) (a := ⟨w2.heap.size, 1, none⟩) (Below.heap_alloc _ _ _ ht4)]
                    exact (hf4 _ _ ht3).trans ((hf3 _ _ m1).trans m4)
                  clear hst hown' hgrow hc3 hf3 hc4 hf4
                  go_wp2
                  go_roundw
                  case rel => exact ⟨(Lib.cut rest [10]).2.1, (Lib.cut rest [10]).2.2, acc ++ [row], _, _, f, rfl, rfl, by have := HLS.out; omega, by have := HLS.out; omega, by simp; omega, by rw [HLIN.out, HMORE.out], HST.out⟩
                  case measure => have := HLS.out; simpa [strLen, ByteArray.size] using this
  · rw [if_neg g] at hce
    subst hce
    have HX2 := HX.out
    rw [if_neg g] at HX2
    have HX3 := Hid.mk HX2
    clear HX HX2
    go_wp2_with (go_at_call 96; refine (wrong_any _ _ _).mono ?_; rintro e w3 ⟨rfl, hw, hw0, hw1, hb3⟩; obtain ⟨hc3, hf3⟩ := bcell hb3)
    have c0 := (hc3 w.heap.size 0 (by omega)).trans ((hc2 _ _ hR).trans q0)
    have c1 := (hc3 w.heap.size 1 (by omega)).trans ((hc2 _ _ hR).trans q1)
    clear hc3 hf3 hc2 hf2
    refine bodyPost_ret (v := .tuple #[.agg #[.slice none 0 0, .slice none 0 0], .iface 150 (.pointer (some ⟨w2.heap.size + 1, 0, none⟩))]) (by simp [results, Tryz.results57, go_sem, c0, c1]) rfl ⟨?_, ?_⟩
    · exact ((bel_then (bel_then HB1.out hb2) hb3).setCell (Nat.le_refl _) _).setCell (Nat.le_refl _) _
    · rw [HX3.out]
      exact bad_end hw (by omega) hw0 hw1
end Go.Proofs.YtjceppinfjbegaaGreatDoor

