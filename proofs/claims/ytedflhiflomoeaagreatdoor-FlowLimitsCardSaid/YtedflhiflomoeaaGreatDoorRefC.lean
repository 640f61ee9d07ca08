import Derived.Test.YtedflhiflomoeaaGreatDoorRefB
set_option linter.unusedSimpArgs false
set_option linter.unusedVariables false
namespace Go.Proofs.YtedflhiflomoeaaGreatDoor
open Go.RowKit

/-- What stands behind a blank, up to the next one. -/
def segsL : By → List By
  | [] => []
  | c :: r => if c = 32 then r.takeWhile (· != 32) :: segsL r else segsL r
theorem take_seg {s r t : By} (hs : 32 ∉ s) (h : r = s ++ 32 :: t) : r.takeWhile (· != 32) = s := by
  subst h
  induction s with
  | nil => simp
  | cons a s ih =>
    have ha : a ≠ 32 := fun e => hs (by simp [e])
    have : (a != 32) = true := by simp [ha]
    rw [List.cons_append, List.takeWhile_cons, this, if_pos rfl, ih (fun h => hs (by simp [h]))]
theorem seg_mem {s : By} (hs : 32 ∉ s) (l : By) (i : Nat) (h : (32 :: s ++ [32]).isPrefixOf (l.drop i) = true) : s ∈ segsL l := by
  induction l generalizing i with
  | nil => simp at h
  | cons c r ih =>
    unfold segsL
    cases i with
    | zero =>
      rw [List.drop_zero, List.isPrefixOf_iff_prefix] at h
      obtain ⟨t, ht⟩ := h
      simp only [List.cons_append, List.append_assoc, List.cons.injEq] at ht
      obtain ⟨rfl, ht⟩ := ht
      rw [if_pos rfl, take_seg hs ht.symm]
      simp
    | succ i =>
      have := ih i h
      split
      · exact List.mem_cons_of_mem _ this
      · exact this
def oneOfB (s W : By) : Bool := s != [] && !(Lib.contains s [32]) && Lib.contains (32 :: W ++ [32]) (32 :: s ++ [32])
theorem no_blank {s : By} (h : Lib.contains s [32] = false) : (32 : UInt8) ∉ s := by
  intro hm
  obtain ⟨a, b, rfl⟩ := List.append_of_mem hm
  rcases Lib.index_spec (a ++ 32 :: b) [32] with ⟨h1, h2⟩ | ⟨i, h1, -⟩
  · have := h2 a.length (by simp)
    simp [Lib.occAt] at this
  · unfold Lib.contains at h
    rw [h1] at h
    simp at h
theorem oneOf_is {s W : By} {L : List By} (h1 : ∀ x ∈ segsL (32 :: W ++ [32]), x ∈ L ∨ x = []) (h2 : ∀ x ∈ L, oneOfB x W = true) : oneOfB s W = decide (s ∈ L) := by
  by_cases hm : s ∈ L
  · rw [h2 s hm, decide_eq_true hm]
  · rw [decide_eq_false hm, Bool.eq_false_iff]
    intro h
    unfold oneOfB at h
    simp only [Bool.and_eq_true, Bool.not_eq_true', bne_iff_ne] at h
    obtain ⟨⟨hne, hb⟩, hc⟩ := h
    unfold Lib.contains at hc
    rcases Lib.index_spec (32 :: W ++ [32]) (32 :: s ++ [32]) with ⟨e1, -⟩ | ⟨i, -, -, e2, -⟩
    · rw [e1] at hc; simp at hc
    · rcases h1 s (seg_mem (no_blank hb) _ i e2) with h | h
      · exact hm h
      · exact hne h
set_option maxRecDepth 100000 in
set_option maxHeartbeats 1600000 in
theorem oneOf_any (s W : By) (w : World) (hE : REnv w) (hs : s.length ≤ 1000000) (hW : W.length ≤ 100) : Calls Tryz.prog 46 #[.string (ba s), .string (ba W)] w fun e w' => e = .returned (.bool (oneOfB s W)) ∧ w' = w := by
  obtain ⟨m, hm⟩ := hE.ml
  have HC : Hid (∀ (x y : ByteArray), x.size ≤ 2000000 → Calls Tryz.prog 69 #[.string x, .string y] w fun e w' => e = .returned (.bool (Lib.contains x.data.toList y.data.toList)) ∧ w' = w) := Hid.mk fun x y hx => Tryz.strings_Contains x y m w (by omega) hm
  have z1 : (ba s).size = s.length := by show s.toArray.size = _; simp
  have z2 : (ba W).size = W.length := by show W.toArray.size = _; simp
  clear hE hm
  by_cases h0 : s = []
  · subst h0
    go_enter Tryz.func46, Tryz.ntmps46
    go_wp2
    go_ret
    exact ⟨rfl, rfl⟩
  have hemp : s.isEmpty = false := by cases s with | nil => exact absurd rfl h0 | cons a l => rfl
  have hbne : (s != []) = true := by simp [h0]
  cases hc : Lib.contains s [32] with
  | true =>
    have H1 := Hid.mk (HC.out (ba s) ⟨#[32]⟩ (by rw [z1]; omega))
    rw [show Lib.contains (ba s).data.toList (⟨#[32]⟩ : ByteArray).data.toList = true from hc] at H1
    go_enter Tryz.func46, Tryz.ntmps46
    go_wp2_with (go_at_call 69; refine H1.out.mono ?_; rintro e w1 ⟨rfl, rfl⟩)
    go_ret
    refine ⟨?_, rfl⟩
    show _ = Ending.returned (.bool (oneOfB s W))
    unfold oneOfB
    rw [hc, hbne]
    rfl
  | false =>
    have H1 := Hid.mk (HC.out (ba s) ⟨#[32]⟩ (by rw [z1]; omega))
    rw [show Lib.contains (ba s).data.toList (⟨#[32]⟩ : ByteArray).data.toList = false from hc] at H1
    have e1 : ∀ l : By, ((⟨#[32]⟩ ++ ba l ++ ⟨#[32]⟩ : ByteArray)).data.toList = 32 :: l ++ [32] := fun l => by simp
    have H2 := Hid.mk (HC.out (⟨#[32]⟩ ++ ba W ++ ⟨#[32]⟩) (⟨#[32]⟩ ++ ba s ++ ⟨#[32]⟩) (by rw [ByteArray.size_append, ByteArray.size_append, z2]; show 1 + W.length + 1 ≤ _; omega))
    rw [e1, e1] at H2
    go_enter Tryz.func46, Tryz.ntmps46
    go_wp2_with (go_at_call 69; fail)
    refine H1.out.mono ?_
    rintro e w1 ⟨rfl, h1⟩
    obtain rfl : w = w1 := h1.symm
    clear h1 H1
    go_wp2_with (go_at_call 69; fail)
    refine H2.out.mono ?_
    rintro e w1 ⟨rfl, h1⟩
    obtain rfl : w = w1 := h1.symm
    clear h1 H2
    go_wp2
    go_ret
    refine ⟨?_, rfl⟩
    show _ = Ending.returned (.bool (oneOfB s W))
    unfold oneOfB
    rw [hc, hbne]
    rfl
set_option maxRecDepth 100000 in
set_option maxHeartbeats 1600000 in
theorem markr_any (W : By) (L : List By) (R : Nat) (q : QS) (w : World) (h : RX w R q) (hW : W.length ≤ 100) (hL : ∀ x ∈ L, x ≠ [] ∧ x.length ≤ 1000) (h1 : ∀ x ∈ segsL (32 :: W ++ [32]), x ∈ L ∨ x = []) (h2 : ∀ x ∈ L, oneOfB x W = true) : Calls Tryz.prog 29 #[.pointer (some ⟨R, 0, none⟩), .string (ba W)] w fun e w' => RC (q.bind (oneOfP L)) encT shpS R w e w' := by
  obtain ⟨ts, bad, hh, rfl⟩ := h.at
  clear h
  have HO := Hid.mk (okr_any R ts bad w hh)
  have HF : Hid (∀ V ts bad c, RF V R ts bad → Calls Tryz.prog 11 #[.pointer (some ⟨R, 0, none⟩), .int .i64 c] V fun e w' => e = .returned (.tuple #[]) ∧ But R V w' ∧ RF w' R ts (bad.or (some (c, hereT ts)))) := Hid.mk fun V ts bad c h => failsr_any R ts bad c V h
  have hsm : (textT ts).length ≤ 1000000 := by
    obtain ⟨t, r, hr⟩ := hh.good.ne
    have := (hh.good.small t (by rw [hr]; simp)).2.1
    rw [hr]; exact this
  have HON : Hid (∀ V, REnv V → Calls Tryz.prog 46 #[.string (ba (textT ts)), .string (ba W)] V fun e w' => e = .returned (.bool (decide (textT ts ∈ L))) ∧ w' = V) := Hid.mk fun V hV => by
    have := oneOf_any (textT ts) W V hV hsm hW
    rw [oneOf_is h1 h2] at this
    exact this
  have HM : Hid (∀ V, RF V R ts none → textT ts ∈ L → Calls Tryz.prog 14 #[.pointer (some ⟨R, 0, none⟩), .string (ba (textT ts))] V fun e w' => e = .returned (.tuple #[]) ∧ But R V w' ∧ RF w' R ts.tail none) := Hid.mk fun V hV hm => (mustr_any (textT ts) R (.ok ts) V hV (hL _ hm).1).mono fun e w' ⟨a, b, c⟩ => ⟨a, b, by
    have e2 : thenQ (.ok ts) (mustP (textT ts)) = .ok ts.tail := by
      show Except.map (·.2) (mustP (textT ts) ts) = _
      unfold mustP
      rw [if_pos rfl]
      rfl
    rw [e2] at c
    exact c⟩
  have HRES : Hid (∀ (v : Value) (w' : World), (∀ a t, (qs ts bad).bind (oneOfP L) = .ok (a, t) → encT a v w') → shpS v → But R w w' → RX w' R (((qs ts bad).bind (oneOfP L)).map (·.2)) → RC ((qs ts bad).bind (oneOfP L)) encT shpS R w (.returned v) w') := Hid.mk fun v w' h1 h2 h3 h4 => ⟨v, rfl, h2, h3, h1, h4⟩
  obtain ⟨b, o, cc, n, hc, hn, hcc, hR, hn1, k0, k1, k2, e1, e2⟩ := hh.head
  have hlt := hh.lt
  have H := Hid.mk hh
  have HL := Hid.mk hL
  clear hh h1 h2 e1 e2 hn hL hsm k0 k2
  cases bad with
  | some e =>
    generalize hB : ba (textT ts) = B at *
    go_enter Tryz.func29, Tryz.ntmps29
    go_wp2_with (first | (go_at_call 16; refine HO.out.mono ?_; rintro e w1 ⟨rfl, hb1⟩; have HC := Hid.mk (H.out.below hb1); have HT := Hid.mk (But.of (R := R) hb1); clear hb1) | (go_at_call 11; refine (HF.out _ _ _ _ HC.out).mono ?_; rintro e w2 ⟨rfl, hb2, hr2⟩; have HC := Hid.mk hr2; have HT := Hid.mk (HT.out.then hb2); clear hb2 hr2))
    go_ret
    refine HRES.out _ _ (fun a t he => by cases he) ⟨[], rfl, by simp⟩ HT.out HC.out.x
  | none =>
    by_cases hm : textT ts ∈ L
    · have hd : decide (textT ts ∈ L) = true := decide_eq_true hm
      rw [hd] at HON
      have HTX := Hid.mk (HL.out _ hm)
      generalize hB : ba (textT ts) = B at *
      clear hd
      go_enter Tryz.func29, Tryz.ntmps29
      go_wp2_with (first | (go_at_call 16; refine HO.out.mono ?_; rintro e w1 ⟨rfl, hb1⟩; have HC := Hid.mk (H.out.below hb1); have HT := Hid.mk (But.of (R := R) hb1); clear hb1) | (go_at_call 46; refine (HON.out _ HC.out.env).mono ?_; rintro e w2 ⟨rfl, h2⟩; obtain rfl : w1 = w2 := h2.symm; clear h2) | (go_at_call 14; refine (HM.out _ HC.out hm).mono ?_; rintro e w3 ⟨rfl, hb3, hr3⟩; have HC := Hid.mk hr3; have HT := Hid.mk (HT.out.then hb3); clear hb3 hr3))
      go_ret
      have he : oneOfP L ts = .ok (textT ts, ts.tail) := by unfold oneOfP; rw [if_pos hm]
      refine HRES.out (.string B) _ (fun a t h => ?_) ⟨textT ts, by rw [hB], HTX.out.2⟩ HT.out ?_
      · change oneOfP L ts = _ at h
        rw [he] at h
        cases h
        exact congrArg Value.string hB.symm
      · show RX _ R (Except.map (·.2) (oneOfP L ts))
        rw [he]
        exact HC.out
    · have hd : decide (textT ts ∈ L) = false := decide_eq_false hm
      rw [hd] at HON
      generalize hB : ba (textT ts) = B at *
      clear hd
      go_enter Tryz.func29, Tryz.ntmps29
      go_wp2_with (first | (go_at_call 16; refine HO.out.mono ?_; rintro e w1 ⟨rfl, hb1⟩; have HC := Hid.mk (H.out.below hb1); have HT := Hid.mk (But.of (R := R) hb1); clear hb1) | (go_at_call 46; refine (HON.out _ HC.out.env).mono ?_; rintro e w2 ⟨rfl, h2⟩; obtain rfl : w1 = w2 := h2.symm; clear h2) | (go_at_call 11; refine (HF.out _ _ _ _ HC.out).mono ?_; rintro e w3 ⟨rfl, hb3, hr3⟩; have HC := Hid.mk hr3; have HT := Hid.mk (HT.out.then hb3); clear hb3 hr3))
      go_ret
      have he : oneOfP L ts = .error (3, hereT ts) := by unfold oneOfP; rw [if_neg hm]; rfl
      refine HRES.out _ _ (fun a t h => ?_) ⟨[], rfl, by simp⟩ HT.out ?_
      · change oneOfP L ts = _ at h
        rw [he] at h
        cases h
      · show RX _ R (Except.map (·.2) (oneOfP L ts))
        rw [he]
        exact HC.out.x
end Go.Proofs.YtedflhiflomoeaaGreatDoor
