import Derived.Test.YtedflhiflomoeaaGreatDoorRefA
set_option linter.unusedSimpArgs false
set_option linter.unusedVariables false
namespace Go.Proofs.YtedflhiflomoeaaGreatDoor
open Go.RowKit

theorem RX.at {w : World} {R : Nat} {q : QS} (h : RX w R q) : ∃ ts bad, RF w R ts bad ∧ qs ts bad = q := by
  cases q with
  | ok ts => exact ⟨ts, none, h, rfl⟩
  | error e => obtain ⟨ts, h⟩ := h; exact ⟨ts, some e, h, rfl⟩
/-- A part behind what was read. -/
def thenQ {α : Type} (q : QS) (p : List Tk → PE α) : QS := (q.bind p).map (·.2)
set_option maxHeartbeats 800000 in
theorem mustr_any (x : By) (R : Nat) (q : QS) (w : World) (h : RX w R q) (hx : x ≠ []) : Calls Tryz.prog 14 #[.pointer (some ⟨R, 0, none⟩), .string (ba x)] w fun e w' => e = .returned (.tuple #[]) ∧ But R w w' ∧ RX w' R (thenQ q (mustP x)) := by
  obtain ⟨ts, bad, hh, rfl⟩ := h.at
  clear h
  have h := hh
  clear hh
  have HS := Hid.mk (taker_any x R ts bad w h hx)
  have HF : Hid (∀ V ts bad c, RF V R ts bad → Calls Tryz.prog 11 #[.pointer (some ⟨R, 0, none⟩), .int .i64 c] V fun e w' => e = .returned (.tuple #[]) ∧ But R V w' ∧ RF w' R ts (bad.or (some (c, hereT ts)))) := Hid.mk fun V ts bad c h => failsr_any R ts bad c V h
  clear h
  cases hsb : seeB x ts bad with
  | true =>
    rw [hsb] at HS
    go_enter Tryz.func14, Tryz.ntmps14
    go_wp2_with (go_at_call 28; refine HS.out.mono ?_; rintro e w1 ⟨rfl, hb1, hr1⟩; have HB1 := Hid.mk hb1; have HR1 := Hid.mk hr1; clear hb1 hr1)
    go_end0
    refine ⟨rfl, HB1.out, ?_⟩
    have hr := HR1.out
    unfold takeT at hr
    rw [if_pos hsb] at hr
    unfold seeB at hsb
    cases bad with
    | some e => cases hsb
    | none =>
      have ht : textT ts = x := by simpa using hsb
      show RX w1 R (Except.map (·.2) (mustP x ts))
      unfold mustP
      rw [if_pos ht]
      exact hr
  | false =>
    rw [hsb] at HS
    go_enter Tryz.func14, Tryz.ntmps14
    go_wp2_with (first | (go_at_call 28; refine HS.out.mono ?_; rintro e w1 ⟨rfl, hb1, hr1⟩; unfold takeT at hr1; rw [if_neg (by rw [hsb]; simp)] at hr1; have HB1 := Hid.mk hb1; have HR1 := Hid.mk hr1; clear hb1 hr1) | (go_at_call 11; refine (HF.out _ _ _ _ HR1.out).mono ?_; rintro e w2 ⟨rfl, hb2, hr2⟩; have HB2 := Hid.mk (HB1.out.then hb2); have HR2 := Hid.mk hr2; clear hb2 hr2))
    go_end0
    refine ⟨rfl, HB2.out, ?_⟩
    have hr := HR2.out.x
    unfold seeB at hsb
    cases bad with
    | some e => exact hr
    | none =>
      have ht : ¬ textT ts = x := by simpa using hsb
      show RX w2 R (Except.map (·.2) (mustP x ts))
      unfold mustP
      rw [if_neg ht]
      exact hr
theorem no_one {w : World} {R n cc : Nat} {ts : List Tk} {bad : Bd} (hn : n + 1 = ts.length) (hcc : n + 1 ≤ cc) (h : RF w R ts.tail bad) : ¬ cc = 1 := fun q => by
  obtain ⟨t, r, hr⟩ := h.good.ne
  have hl : ts.tail.length = 0 := by rw [List.length_tail]; omega
  rw [hr] at hl
  simp at hl
def encT (a : By) (v : Value) (_ : World) : Prop := v = .string (ba a)
def shpS (v : Value) : Prop := ∃ s : By, v = .string (ba s) ∧ s.length ≤ 1000
set_option maxRecDepth 100000 in
set_option maxHeartbeats 3200000 in
theorem namer_any (R : Nat) (q : QS) (w : World) (h : RX w R q) : Calls Tryz.prog 15 #[.pointer (some ⟨R, 0, none⟩)] w fun e w' => RC (q.bind nameP) encT shpS R w e w' := by
  obtain ⟨ts, bad, hh, rfl⟩ := h.at
  clear h
  have h := hh
  clear hh
  have HO : Hid (∀ V ts bad, RF V R ts bad → Calls Tryz.prog 16 #[.pointer (some ⟨R, 0, none⟩)] V fun e w' => e = .returned (.bool bad.isNone) ∧ Below V.heap.size V w') := Hid.mk fun V ts bad h => okr_any R ts bad V h
  have HF : Hid (∀ V ts bad c, RF V R ts bad → Calls Tryz.prog 11 #[.pointer (some ⟨R, 0, none⟩), .int .i64 c] V fun e w' => e = .returned (.tuple #[]) ∧ But R V w' ∧ RF w' R ts (bad.or (some (c, hereT ts)))) := Hid.mk fun V ts bad c h => failsr_any R ts bad c V h
  have HRES : Hid (∀ (v : Value) (w' : World), (∀ a t, (qs ts bad).bind nameP = .ok (a, t) → encT a v w') → shpS v → But R w w' → RX w' R (((qs ts bad).bind nameP).map (·.2)) → RC ((qs ts bad).bind nameP) encT shpS R w (.returned v) w') := Hid.mk fun v w' h1 h2 h3 h4 => ⟨v, rfl, h2, h3, h1, h4⟩
  obtain ⟨b, o, cc, n, hc, hn, hcc, hR, hn1, k0, k1, k2, e1, e2⟩ := h.head
  have hlt := h.lt
  obtain ⟨w1, hw1⟩ : ∃ x, w.alloc (.cells #[.int .i64 ((kindT ts + 1 : Nat) : Int), .string (ba (textT ts)), .int .i64 (hereT ts)] 64) = x := ⟨_, rfl⟩
  have hb1 : Below w.heap.size w w1 := by rw [← hw1]; exact below_box _ _
  have hX : Box w1 w.heap.size [.int .i64 ((kindT ts + 1 : Nat) : Int), .string (ba (textT ts)), .int .i64 (hereT ts)] := by rw [← hw1]; exact Box.new w _ _ _ rfl
  have HC := Hid.mk (h.below hb1)
  have HT := Hid.mk (But.of (R := R) hb1)
  have HX := Hid.mk hX
  have c0 := hX.cell 0 rfl
  have c1 := hX.cell 1 rfl
  have hsz : (ba (textT ts)).size = (textT ts).length := by show (textT ts).toArray.size = _; simp
  have hne : w.heap.size ≠ R := by omega
  have HNE := Hid.mk hne
  have H := Hid.mk h
  clear h hb1 hX e1 e2 hn hne
  have hlI : (10 < (textT ts).length → (10 : Int) < ((ba (textT ts)).size : Int)) ∧ (¬ 10 < (textT ts).length → ¬ (10 : Int) < ((ba (textT ts)).size : Int)) := by rw [hsz]; omega
  by_cases hk : kindT ts = 0
  · have hkb : (((kindT ts + 1 : Nat) : Int) != 1) = false := by rw [hk]; rfl
    generalize hK : ((kindT ts + 1 : Nat) : Int) = K at *
    by_cases hl : 10 < (textT ts).length
    · have hlI := hlI.1 hl
      cases bad with
      | none =>
        generalize hB : ba (textT ts) = B at *
        clear hsz
        go_enter Tryz.func15, Tryz.ntmps15
        go_wp2_with (first | (go_at_call 11; refine (HF.out _ _ _ _ HC.out).mono ?_; rintro e w2 ⟨rfl, hb2, hr2⟩; have HC := Hid.mk hr2; have HT := Hid.mk (HT.out.then hb2); have HX := Hid.mk (HX.out.but hb2 HNE.out); have c0 := HX.out.cell 0 rfl; have c1 := HX.out.cell 1 rfl; clear hb2 hr2) | (go_at_call 16; refine (HO.out _ _ _ HC.out).mono ?_; rintro e w3 ⟨rfl, hb3⟩; have HC := Hid.mk (HC.out.below hb3); have HT := Hid.mk (HT.out.then (But.of hb3)); have HX := Hid.mk (HX.out.below hb3); have c0 := HX.out.cell 0 rfl; have c1 := HX.out.cell 1 rfl; clear hb3))
        go_ret
        refine HRES.out _ _ ?_ ⟨[], rfl, by simp⟩ HT.out ?_
        · simp [qs, nameP, wrongP, Except.bind, hk, hl]
        · have hq := HC.out.x
          simpa [qs, nameP, wrongP, Except.bind, Except.map, hk, hl] using hq
      | some e =>
        generalize hB : ba (textT ts) = B at *
        clear hsz
        go_enter Tryz.func15, Tryz.ntmps15
        go_wp2_with (first | (go_at_call 11; refine (HF.out _ _ _ _ HC.out).mono ?_; rintro e w2 ⟨rfl, hb2, hr2⟩; have HC := Hid.mk hr2; have HT := Hid.mk (HT.out.then hb2); have HX := Hid.mk (HX.out.but hb2 HNE.out); have c0 := HX.out.cell 0 rfl; have c1 := HX.out.cell 1 rfl; clear hb2 hr2) | (go_at_call 16; refine (HO.out _ _ _ HC.out).mono ?_; rintro e w3 ⟨rfl, hb3⟩; have HC := Hid.mk (HC.out.below hb3); have HT := Hid.mk (HT.out.then (But.of hb3)); have HX := Hid.mk (HX.out.below hb3); have c0 := HX.out.cell 0 rfl; have c1 := HX.out.cell 1 rfl; clear hb3))
        go_ret
        refine HRES.out _ _ ?_ ⟨[], rfl, by simp⟩ HT.out ?_
        · simp [qs, nameP, wrongP, Except.bind, hk, hl]
        · have hq := HC.out.x
          simpa [qs, nameP, wrongP, Except.bind, Except.map, hk, hl] using hq
    · have hlI := hlI.2 hl
      cases bad with
      | none =>
        have HTK : Hid (∀ V b o c n, RF V R ts none → V.cell? ⟨R, 0, none⟩ = some (.slice (some ⟨b, o, none⟩) (n + 1) c) → RF (V.setCell ⟨R, 0, none⟩ (.slice (some ⟨b, o + 3, none⟩) n (c - 1))) R ts.tail none) := Hid.mk fun V b o c n h hc => h.taken (Or.inl (by rw [hk]; decide)) hc
        have hsz2 := hsz
        have HSZ := Hid.mk hsz2
        generalize hB : ba (textT ts) = B at *
        clear hsz hsz2
        go_enter Tryz.func15, Tryz.ntmps15
        go_wp2_with (first | (go_at_call 11; refine (HF.out _ _ _ _ HC.out).mono ?_; rintro e w2 ⟨rfl, hb2, hr2⟩; have HC := Hid.mk hr2; have HT := Hid.mk (HT.out.then hb2); have HX := Hid.mk (HX.out.but hb2 HNE.out); have c0 := HX.out.cell 0 rfl; have c1 := HX.out.cell 1 rfl; clear hb2 hr2) | (go_at_call 16; refine (HO.out _ _ _ HC.out).mono ?_; rintro e w3 ⟨rfl, hb3⟩; have HC := Hid.mk (HC.out.below hb3); have HT := Hid.mk (HT.out.then (But.of hb3)); have HX := Hid.mk (HX.out.below hb3); have c0 := HX.out.cell 0 rfl; have c1 := HX.out.cell 1 rfl; obtain ⟨b, o, cc, n, hc, hn, hcc, hR, hn1, -⟩ := HC.out.head; have HTT := Hid.mk (HTK.out _ _ _ _ _ HC.out hc); have hf0 := HC.out.fz 0; have hlt := HC.out.lt; have hc1 : ¬ cc = 1 := (no_one hn hcc HTT.out); clear hn; clear hb3))
        go_ret
        refine HRES.out (.string B) _ ?_ ⟨textT ts, by rw [hB], by omega⟩ (HT.out.then (But.set R 0 _ _)) ?_
        · intro a t he
          simp [qs, nameP, Except.bind, hk, hl] at he
          obtain ⟨rfl, -⟩ := he
          show _ = _
          rw [hB]
        · have hq := HTT.out
          show RX _ R (Except.map (·.2) (nameP ts))
          unfold nameP
          rw [if_neg (by simp [hk]), if_neg hl]
          exact hq
      | some e =>
        generalize hB : ba (textT ts) = B at *
        clear hsz
        go_enter Tryz.func15, Tryz.ntmps15
        go_wp2_with (first | (go_at_call 11; refine (HF.out _ _ _ _ HC.out).mono ?_; rintro e w2 ⟨rfl, hb2, hr2⟩; have HC := Hid.mk hr2; have HT := Hid.mk (HT.out.then hb2); have HX := Hid.mk (HX.out.but hb2 HNE.out); have c0 := HX.out.cell 0 rfl; have c1 := HX.out.cell 1 rfl; clear hb2 hr2) | (go_at_call 16; refine (HO.out _ _ _ HC.out).mono ?_; rintro e w3 ⟨rfl, hb3⟩; have HC := Hid.mk (HC.out.below hb3); have HT := Hid.mk (HT.out.then (But.of hb3)); have HX := Hid.mk (HX.out.below hb3); have c0 := HX.out.cell 0 rfl; have c1 := HX.out.cell 1 rfl; clear hb3))
        go_ret
        refine HRES.out _ _ ?_ ⟨[], rfl, by simp⟩ HT.out ?_
        · simp [qs, nameP, wrongP, Except.bind, hk, hl]
        · have hq := HC.out.x
          simpa [qs, nameP, wrongP, Except.bind, Except.map, hk, hl] using hq
  · have hkb : (((kindT ts + 1 : Nat) : Int) != 1) = true := by simp; omega
    generalize hK : ((kindT ts + 1 : Nat) : Int) = K at *
    by_cases hl : 10 < (textT ts).length
    · have hlI := hlI.1 hl
      cases bad with
      | none =>
        generalize hB : ba (textT ts) = B at *
        clear hsz
        go_enter Tryz.func15, Tryz.ntmps15
        go_wp2_with (first | (go_at_call 11; refine (HF.out _ _ _ _ HC.out).mono ?_; rintro e w2 ⟨rfl, hb2, hr2⟩; have HC := Hid.mk hr2; have HT := Hid.mk (HT.out.then hb2); have HX := Hid.mk (HX.out.but hb2 HNE.out); have c0 := HX.out.cell 0 rfl; have c1 := HX.out.cell 1 rfl; clear hb2 hr2) | (go_at_call 16; refine (HO.out _ _ _ HC.out).mono ?_; rintro e w3 ⟨rfl, hb3⟩; have HC := Hid.mk (HC.out.below hb3); have HT := Hid.mk (HT.out.then (But.of hb3)); have HX := Hid.mk (HX.out.below hb3); have c0 := HX.out.cell 0 rfl; have c1 := HX.out.cell 1 rfl; clear hb3))
        go_ret
        refine HRES.out _ _ ?_ ⟨[], rfl, by simp⟩ HT.out ?_
        · simp [qs, nameP, wrongP, Except.bind, hk, hl]
        · have hq := HC.out.x
          simpa [qs, nameP, wrongP, Except.bind, Except.map, hk, hl] using hq
      | some e =>
        generalize hB : ba (textT ts) = B at *
        clear hsz
        go_enter Tryz.func15, Tryz.ntmps15
        go_wp2_with (first | (go_at_call 11; refine (HF.out _ _ _ _ HC.out).mono ?_; rintro e w2 ⟨rfl, hb2, hr2⟩; have HC := Hid.mk hr2; have HT := Hid.mk (HT.out.then hb2); have HX := Hid.mk (HX.out.but hb2 HNE.out); have c0 := HX.out.cell 0 rfl; have c1 := HX.out.cell 1 rfl; clear hb2 hr2) | (go_at_call 16; refine (HO.out _ _ _ HC.out).mono ?_; rintro e w3 ⟨rfl, hb3⟩; have HC := Hid.mk (HC.out.below hb3); have HT := Hid.mk (HT.out.then (But.of hb3)); have HX := Hid.mk (HX.out.below hb3); have c0 := HX.out.cell 0 rfl; have c1 := HX.out.cell 1 rfl; clear hb3))
        go_ret
        refine HRES.out _ _ ?_ ⟨[], rfl, by simp⟩ HT.out ?_
        · simp [qs, nameP, wrongP, Except.bind, hk, hl]
        · have hq := HC.out.x
          simpa [qs, nameP, wrongP, Except.bind, Except.map, hk, hl] using hq
    · have hlI := hlI.2 hl
      cases bad with
      | none =>
        generalize hB : ba (textT ts) = B at *
        clear hsz
        go_enter Tryz.func15, Tryz.ntmps15
        go_wp2_with (first | (go_at_call 11; refine (HF.out _ _ _ _ HC.out).mono ?_; rintro e w2 ⟨rfl, hb2, hr2⟩; have HC := Hid.mk hr2; have HT := Hid.mk (HT.out.then hb2); have HX := Hid.mk (HX.out.but hb2 HNE.out); have c0 := HX.out.cell 0 rfl; have c1 := HX.out.cell 1 rfl; clear hb2 hr2) | (go_at_call 16; refine (HO.out _ _ _ HC.out).mono ?_; rintro e w3 ⟨rfl, hb3⟩; have HC := Hid.mk (HC.out.below hb3); have HT := Hid.mk (HT.out.then (But.of hb3)); have HX := Hid.mk (HX.out.below hb3); have c0 := HX.out.cell 0 rfl; have c1 := HX.out.cell 1 rfl; clear hb3))
        go_ret
        refine HRES.out _ _ ?_ ⟨[], rfl, by simp⟩ HT.out ?_
        · simp [qs, nameP, wrongP, Except.bind, hk, hl]
        · have hq := HC.out.x
          simpa [qs, nameP, wrongP, Except.bind, Except.map, hk, hl] using hq
      | some e =>
        generalize hB : ba (textT ts) = B at *
        clear hsz
        go_enter Tryz.func15, Tryz.ntmps15
        go_wp2_with (first | (go_at_call 11; refine (HF.out _ _ _ _ HC.out).mono ?_; rintro e w2 ⟨rfl, hb2, hr2⟩; have HC := Hid.mk hr2; have HT := Hid.mk (HT.out.then hb2); have HX := Hid.mk (HX.out.but hb2 HNE.out); have c0 := HX.out.cell 0 rfl; have c1 := HX.out.cell 1 rfl; clear hb2 hr2) | (go_at_call 16; refine (HO.out _ _ _ HC.out).mono ?_; rintro e w3 ⟨rfl, hb3⟩; have HC := Hid.mk (HC.out.below hb3); have HT := Hid.mk (HT.out.then (But.of hb3)); have HX := Hid.mk (HX.out.below hb3); have c0 := HX.out.cell 0 rfl; have c1 := HX.out.cell 1 rfl; clear hb3))
        go_ret
        refine HRES.out _ _ ?_ ⟨[], rfl, by simp⟩ HT.out ?_
        · simp [qs, nameP, wrongP, Except.bind, hk, hl]
        · have hq := HC.out.x
          simpa [qs, nameP, wrongP, Except.bind, Except.map, hk, hl] using hq
end Go.Proofs.YtedflhiflomoeaaGreatDoor
