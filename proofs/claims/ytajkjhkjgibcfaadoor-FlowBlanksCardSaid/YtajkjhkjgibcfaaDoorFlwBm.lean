import Derived.Test.YtajkjhkjgibcfaaDoorFlwZb
import Derived.Test.YtajkjhkjgibcfaaDoorFlwSe
set_option linter.unusedSimpArgs false
set_option linter.unusedVariables false
namespace Go.Proofs.YtajkjhkjgibcfaaDoor
open Go.RowKit

/-- The fact's flow: its text, itself, how it is written. -/
def fs0 : By := [105, 110, 32, 112, 58, 105, 100, 32, 105, 110, 116, 44, 110, 32, 116, 101, 120, 116, 59, 106, 111, 98, 32, 97, 44, 98, 32, 114, 101, 116, 114, 121, 32, 50, 61, 115, 112, 108, 105, 116, 32, 112, 32, 119, 104, 101, 114, 101, 32, 105, 100, 60, 62, 45, 32, 51, 59, 106, 111, 98, 32, 99, 61, 115, 101, 116, 32, 97, 58, 105, 100, 61, 105, 100, 43, 49, 59, 111, 117, 116, 32, 114, 61, 99, 59]
def ft0 : By := [105, 110, 32, 112, 58, 32, 105, 100, 32, 105, 110, 116, 44, 32, 110, 32, 116, 101, 120, 116, 59, 10, 106, 111, 98, 32, 97, 44, 32, 98, 32, 114, 101, 116, 114, 121, 32, 50, 32, 61, 32, 115, 112, 108, 105, 116, 32, 112, 32, 119, 104, 101, 114, 101, 32, 105, 100, 32, 60, 62, 32, 45, 51, 59, 10, 106, 111, 98, 32, 99, 32, 61, 32, 115, 101, 116, 32, 97, 58, 32, 105, 100, 32, 61, 32, 105, 100, 32, 43, 32, 49, 59, 10, 111, 117, 116, 32, 114, 32, 61, 32, 99, 59, 10]
def fl0 : Flw := ⟨[⟨0, [112], [([105, 100], 1), ([110], 2)]⟩], [⟨19, 9, [[97], [98]], [[112]], [], [60, 62], ([105, 100], 0, 0, []), ([], 1, -3, []), 2⟩, ⟨57, 2, [[99]], [[97]], [[105, 100]], [43], ([105, 100], 0, 0, []), ([], 1, 1, []), 0⟩], [⟨77, [114], [99]⟩]⟩
set_option maxRecDepth 100000 in
theorem parse0 : parseF fs0 = .ok fl0 := by kernel_rfl
theorem dec_small {u : Nat} (h : u < 10) : Lib.decDigits u = [UInt8.ofNat (48 + u)] := by rw [Lib.decDigits, dif_pos h]
set_option maxRecDepth 100000 in
theorem print0 : printF fl0 = ft0 := by
  have e1 : Lib.itoa (-3) = [45, 51] := by rw [itoa_neg (by decide)]; show 45 :: Lib.decDigits 3 = _; rw [dec_small (by decide)]; rfl
  have e2 : Lib.itoa 2 = [50] := by rw [itoa_pos (by decide)]; show Lib.decDigits 2 = _; rw [dec_small (by decide)]; rfl
  have e3 : Lib.itoa 1 = [49] := by rw [itoa_pos (by decide)]; show Lib.decDigits 1 = _; rw [dec_small (by decide)]; rfl
  simp [printF, fl0, ft0, inLn, jobLn, outLn, colsL, colL, kindW, listL, Lib.join_cons, Lib.joinTail, retryL, jobL, verbW, verbs0, verbsL, nthL, argL, valueL, wIn, wJob, wOut, wInt, wText, wRetry, wWhere, wBy, e1, e2, e3]

theorem parse_good {s : By} {f : Flw} (h : parseF s = .ok f) (w : World) (hs : s.length ≤ 1000000) (hE : FEnv w) :
    Calls Tryd.prog 6 #[.string (ba s)] w fun e w' => ∃ ia ic ja jc oa oc, e = .returned (.tuple #[.agg #[.slice ia f.ins.length ic, .slice ja f.jobs.length jc, .slice oa f.outs.length oc], .nilIface]) ∧ FlowRd w' f (.slice ia f.ins.length ic) (.slice ja f.jobs.length jc) (.slice oa f.outs.length oc) ∧ Below w.heap.size w w' := by
  refine (parse_any s w hs hE).mono ?_
  rintro e w' ⟨⟨g, vi, vj, vo, hg, rfl, hfl⟩ | ⟨er, b, hg, -⟩, hb⟩
  · rw [h] at hg
    injection hg with hg
    subst hg
    have hr := FlowRd.of hfl
    obtain ⟨ia, ic, rfl⟩ := row_slice hr.ins
    obtain ⟨ja, jc, rfl⟩ := row_slice hr.jobs
    obtain ⟨oa, oc, rfl⟩ := row_slice hr.outs
    exact ⟨_, _, _, _, _, _, rfl, hr, hb⟩
  · rw [h] at hg
    cases hg
theorem parse_bad {s : By} {er : Int × Nat} (h : parseF s = .error er) (w : World) (hs : s.length ≤ 1000000) (hE : FEnv w) :
    Calls Tryd.prog 6 #[.string (ba s)] w fun e w' => ∃ b, e = .returned (.tuple #[.agg #[.slice none 0 0, .slice none 0 0, .slice none 0 0], .iface 38 (.pointer (some ⟨b, 0, none⟩))]) ∧ Below w.heap.size w w' := by
  refine (parse_any s w hs hE).mono ?_
  rintro e w' ⟨⟨g, vi, vj, vo, hg, -⟩ | ⟨er, b, hg, rfl, -⟩, hb⟩
  · rw [h] at hg
    cases hg
  · exact ⟨b, rfl, hb⟩
set_option maxRecDepth 100000 in
set_option maxHeartbeats 1600000 in
theorem flowed_any (w : World) (hE : FEnv w) :
    Calls Tryd.prog 5 #[] w fun e w' => e = .returned (.bool true) ∧ Below w.heap.size w w' := by
  obtain ⟨f, hf, hp⟩ : ∃ f, parseF fs0 = .ok f ∧ printF f = ft0 := ⟨_, parse0, print0⟩
  have HP := Hid.mk (parse_good hf w (by decide) hE)
  have HQ := Hid.mk (And.intro hE (And.intro (parse_ok (by decide) hf) hp))
  clear hE hf hp
  go_enter Tryd.func5, Tryd.ntmps5
  go_wp2_with (go_at_call 6; refine HP.out.mono ?_; rintro e w1 ⟨ia, ic, ja, jc, oa, oc, rfl, hrd, hb1⟩; have HB1 := Hid.mk (bel_box hb1 (.cells #[.slice ia f.ins.length ic, .slice ja f.jobs.length jc, .slice oa f.outs.length oc] 27)); have HPR := Hid.mk (print_any f _ _ _ (w1.alloc (.cells #[.slice ia f.ins.length ic, .slice ja f.jobs.length jc, .slice oa f.outs.length oc] 27)) (hrd.below (below_box _ _)) HQ.out.2.1 (HQ.out.1.belowW HB1.out)); rw [HQ.out.2.2] at HPR; clear hrd hb1)
  refine HPR.out.mono ?_
  rintro e w2 ⟨rfl, hb2⟩
  have HB2 := Hid.mk (bel_then HB1.out hb2)
  clear hb2
  go_wp2
  go_ret
  exact ⟨rfl, HB2.out⟩
set_option maxRecDepth 100000 in
set_option maxHeartbeats 1600000 in
theorem back_any (s : ByteArray) (w : World) (hE : FEnv w) (hsl : s.size ≤ maxLen) :
    Calls Tryd.prog 3 #[.string s] w fun e w' => e = .returned (.bool true) ∧ Below w.heap.size w w' := by
  obtain ⟨l, rfl⟩ : ∃ l, s = ba l := ⟨s.data.toList, rfl⟩
  have hsz : (ba l).size = l.length := ba_size l
  have HS := Hid.mk hsl
  have HF := Hid.mk (flowed_any w hE)
  have HE := Hid.mk hE
  by_cases hl : 1500 < l.length
  · clear hE
    have hb : 1500 < (ba l).size := by rw [hsz]; exact hl
    generalize ba l = x at *
    go_enter Tryd.func3, Tryd.ntmps3
    go_wp2
    go_ret
    exact ⟨rfl, Below.refl _ _⟩
  · have hb : ¬ 1500 < (ba l).size := by rw [hsz]; exact hl
    cases hp : parseF l with
    | error er =>
      have HP := Hid.mk (fun V hV => parse_bad hp V (by omega) (hE.belowW hV))
      clear hE hp
      generalize ba l = x at *
      go_enter Tryd.func3, Tryd.ntmps3
      go_wp2_with (first | (go_at_call 5; refine HF.out.mono ?_; rintro e w1 ⟨rfl, hb1⟩; have HB1 := Hid.mk hb1; clear hb1) | (go_at_call 6; refine (HP.out _ HB1.out).mono ?_; rintro e w2 ⟨b, rfl, hb2⟩; have HB2 := Hid.mk (bel_then HB1.out hb2); clear hb2))
      go_ret
      exact ⟨rfl, bel_box HB2.out _⟩
    | ok f =>
      obtain ⟨g, hg, hlike, hgi, hgj, hgo⟩ := print_back (by omega) hp
      have hlen := print_len (by omega) hp
      have hfok := parse_ok (by omega) hp
      have hgok := parse_ok (by omega) hg
      have HP := Hid.mk (fun V hV => parse_good hp V (by omega) (hE.belowW hV))
      have HG := Hid.mk (fun V hV => parse_good hg V (by omega) (hE.belowW hV))
      have HPR := Hid.mk (fun V hV a1 a2 a3 h => print_any f a1 a2 a3 V h hfok (hE.belowW hV))
      have HGR := Hid.mk (fun V hV a1 a2 a3 h => print_any g a1 a2 a3 V h hgok (hE.belowW hV))
      rw [hlike] at HGR
      rw [hgi, hgj, hgo] at HG
      have HGI := Hid.mk (And.intro hgi (And.intro hgj hgo))
      clear hE hp hg hlike hgi hgj hgo hfok hgok hlen
      generalize hx : ba l = x at *
      generalize hy : ba (printF f) = y at *
      generalize f.ins.length = ni at *
      generalize f.jobs.length = nj at *
      generalize f.outs.length = no at *
      clear hx hy
      go_enter Tryd.func3, Tryd.ntmps3
      go_wp2_with (first | (go_at_call 5; refine HF.out.mono ?_; rintro e w1 ⟨rfl, hb1⟩; have HB1 := Hid.mk hb1; clear hb1) | (go_at_call 6; refine (HP.out _ HB1.out).mono ?_; rintro e w2 ⟨ia, ic, ja, jc, oa, oc, rfl, hrd, hb2⟩; have HB2 := Hid.mk (bel_box (bel_then HB1.out hb2) (.cells #[.slice ia ni ic, .slice ja nj jc, .slice oa no oc] 27)); have HX2 := Hid.mk (Box.new w2 [.slice ia ni ic, .slice ja nj jc, .slice oa no oc] 27 _ rfl); have HR2 := Hid.mk (hrd.below (below_box w2 (.cells #[.slice ia ni ic, .slice ja nj jc, .slice oa no oc] 27))); clear hrd hb2) | (go_at_call 7; fail))
      refine (HPR.out _ HB2.out _ _ _ HR2.out).mono ?_
      rintro e w3 ⟨rfl, hb3⟩
      have HB3 := Hid.mk (bel_then HB2.out hb3)
      have HX3 := Hid.mk (HX2.out.below hb3)
      have q3 := HX3.out.lt
      clear hb3
      go_wp2_with (go_at_call 6; fail)
      refine (HG.out _ HB3.out).mono ?_
      rintro e w4 ⟨ia', ic', ja', jc', oa', oc', rfl, hrd, hb4⟩
      have HB4 := Hid.mk (bel_box (bel_then HB3.out hb4) (.cells #[.slice ia' ni ic', .slice ja' nj jc', .slice oa' no oc'] 27))
      have HX4 := Hid.mk (Box.new w4 [.slice ia' ni ic', .slice ja' nj jc', .slice oa' no oc'] 27 _ rfl)
      have HZ4 := Hid.mk ((HX3.out.below hb4).below (below_box w4 (.cells #[.slice ia' ni ic', .slice ja' nj jc', .slice oa' no oc'] 27)))
      have HR4 := Hid.mk (hrd.below (below_box w4 (.cells #[.slice ia' ni ic', .slice ja' nj jc', .slice oa' no oc'] 27)))
      clear hrd hb4
      go_wp2_with (go_at_call 7; fail)
      refine (HGR.out _ HB4.out _ _ _ HR4.out).mono ?_
      rintro e w5 ⟨rfl, hb5⟩
      have HB5 := Hid.mk (bel_then HB4.out hb5)
      have c0 := (HX4.out.below hb5).cell 0 rfl
      have c1 := (HX4.out.below hb5).cell 1 rfl
      have c2 := (HX4.out.below hb5).cell 2 rfl
      have d0 := (HZ4.out.below hb5).cell 0 rfl
      have d1 := (HZ4.out.below hb5).cell 1 rfl
      have d2 := (HZ4.out.below hb5).cell 2 rfl
      clear hb5
      go_wp2
      go_ret
      exact ⟨rfl, HB5.out⟩
end Go.Proofs.YtajkjhkjgibcfaaDoor

namespace Go.Proofs.YtajkjhkjgibcfaaDoor
open Go.RowKit

/-- A text with other blanks, outside quotes: within quotes ahead, the text, what comes of it, within quotes behind. -/
inductive Rf : Bool → By → By → Bool → Prop
  | nil {b : Bool} : Rf b [] [] b
  | blank {c : UInt8} {z r o : By} {b' : Bool} : (c = 32 ∨ c = 10) → Bl z → z ≠ [] → z.length ≤ 3 → Rf false r o b' → Rf false (c :: r) (z ++ o) b'
  | other {b b' : Bool} {c : UInt8} {r o : By} : ((b != (c == 39)) = true ∨ (c ≠ 32 ∧ c ≠ 10)) → Rf (b != (c == 39)) r o b' → Rf b (c :: r) (c :: o) b'
theorem Rf.app {b b1 b2 : Bool} {p o q o' : By} (h : Rf b p o b1) (h' : Rf b1 q o' b2) : Rf b (p ++ q) (o ++ o') b2 := by
  induction h with
  | nil => exact h'
  | blank hc hz hn hl _ ih => rw [List.append_assoc]; exact Rf.blank hc hz hn hl (ih h')
  | other hc _ ih => exact Rf.other hc (ih h')
theorem Rf.split : ∀ {p q : By} {b b2 : Bool} {out : By}, Rf b (p ++ q) out b2 → ∃ o1 o2 b1, out = o1 ++ o2 ∧ Rf b p o1 b1 ∧ Rf b1 q o2 b2
  | [], q, b, b2, out, h => ⟨[], out, b, rfl, .nil, h⟩
  | c :: p, q, b, b2, out, h => by
    cases h with
    | blank hc hz hn hl h =>
      obtain ⟨o1, o2, b1, e, h1, h2⟩ := Rf.split h
      subst e
      exact ⟨_, o2, b1, by rw [List.append_assoc], .blank hc hz hn hl h1, h2⟩
    | other hc h =>
      obtain ⟨o1, o2, b1, e, h1, h2⟩ := Rf.split h
      subst e
      exact ⟨_, o2, b1, rfl, .other hc h1, h2⟩
theorem Rf.len {b b' : Bool} {p o : By} (h : Rf b p o b') : o.length ≤ 3 * p.length := by
  induction h with
  | nil => simp
  | blank _ _ _ hl _ ih => simp only [List.length_append, List.length_cons]; omega
  | other _ _ ih => simp only [List.length_cons]; omega
/-- What bears no blank and no quote stays. -/
theorem Rf.solid : ∀ {x o : By} {b : Bool}, (∀ c ∈ x, c ≠ 32 ∧ c ≠ 10 ∧ c ≠ 39) → Rf false x o b → o = x ∧ b = false
  | [], o, b, _, h => by cases h; exact ⟨rfl, rfl⟩
  | c :: x, o, b, hx, h => by
    have h0 := hx c List.mem_cons_self
    cases h with
    | blank hc _ _ _ _ => rcases hc with hc | hc; exact absurd hc h0.1; exact absurd hc h0.2.1
    | other hc h =>
      have e : (false != (c == 39)) = false := by simp [h0.2.2]
      rw [e] at h
      obtain ⟨rfl, rfl⟩ := Rf.solid (fun d hd => hx d (List.mem_cons_of_mem _ hd)) h
      exact ⟨rfl, rfl⟩
theorem Rf.inner : ∀ {x o : By} {b : Bool}, (39 : UInt8) ∉ x → Rf true x o b → o = x ∧ b = true
  | [], o, b, _, h => by cases h; exact ⟨rfl, rfl⟩
  | c :: x, o, b, hx, h => by
    have h0 : c ≠ 39 := fun e => hx (by rw [e]; exact List.mem_cons_self)
    cases h with
    | other hc h =>
      have e : (true != (c == 39)) = true := by simp [h0]
      rw [e] at h
      obtain ⟨rfl, rfl⟩ := Rf.inner (fun hd => hx (List.mem_cons_of_mem _ hd)) h
      exact ⟨rfl, rfl⟩
theorem lowdig_solid {c : UInt8} (h : lowdigB c = true) : c ≠ 32 ∧ c ≠ 10 ∧ c ≠ 39 := by
  refine ⟨?_, ?_, ?_⟩ <;> (rintro rfl; revert h; decide)
theorem Rf.token {k : Nat} {x o : By} {b : Bool} (hx : WT k x) (h : Rf false x o b) : o = x ∧ b = false := by
  rcases hx with ⟨rfl, c, y, rfl, hc, hy⟩ | ⟨rfl, hne, hd⟩ | ⟨rfl, l, rfl, hl⟩ | ⟨rfl, hm⟩
  · refine Rf.solid ?_ h
    intro d hd
    rcases List.mem_cons.1 hd with rfl | hd
    · exact lowdig_solid (by simp [lowdigB, hc])
    · exact lowdig_solid (hy d hd)
  · exact Rf.solid (fun d h' => lowdig_solid (by simp [lowdigB, hd d h'])) h
  · cases h with
    | blank hc _ _ _ _ => exact absurd hc (by decide)
    | other hc h =>
      have e : (false != ((39 : UInt8) == 39)) = true := by decide
      rw [e] at h
      obtain ⟨o1, o2, b1, rfl, h1, h2⟩ := Rf.split h
      obtain ⟨rfl, rfl⟩ := Rf.inner hl h1
      cases h2 with
      | other hc h =>
        have e : (true != ((39 : UInt8) == 39)) = false := by decide
        rw [e] at h
        cases h
        exact ⟨rfl, rfl⟩
  · refine Rf.solid ?_ h
    clear h
    revert hm
    revert x
    decide
theorem Rf.blanks : ∀ {z o : By} {b : Bool}, Bl z → Rf false z o b → Bl o ∧ (z = [] ↔ o = []) ∧ b = false
  | [], o, b, _, h => by cases h; exact ⟨bl0, Iff.rfl, rfl⟩
  | c :: z, o, b, hz, h => by
    have hc := hz c List.mem_cons_self
    have hc' : c = 32 ∨ c = 10 := by simpa [blankB] using hc
    cases h with
    | blank _ hz' hn _ h =>
      obtain ⟨h1, -, h3⟩ := Rf.blanks (fun d hd => hz d (List.mem_cons_of_mem _ hd)) h
      refine ⟨fun d hd => (List.mem_append.1 hd).elim (hz' d) (h1 d), ⟨fun e => absurd e (List.cons_ne_nil _ _), fun e => absurd (List.append_eq_nil_iff.1 e).1 hn⟩, h3⟩
    | other hh h =>
      rcases hc' with rfl | rfl
      · rcases hh with hh | hh
        · exact absurd hh (by decide)
        · exact absurd rfl hh.1
      · rcases hh with hh | hh
        · exact absurd hh (by decide)
        · exact absurd rfl hh.2
/-- Tokens with other blanks. -/
theorem Rf.spell : ∀ {S : List Sp} {e out : By} {n : Nat} {b : Bool} {d : By × Nat}, GS S d → Bl e → Rf false (Go.Proofs.YtajkjhkjgibcfaaDoor.spell S e) out b → ∃ S' e', out = Go.Proofs.YtajkjhkjgibcfaaDoor.spell S' e' ∧ Re S S' ∧ (e = [] ↔ e' = []) ∧ Bl e'
  | [], e, out, n, b, d, _, he, h => by
    obtain ⟨h1, h2, -⟩ := Rf.blanks he h
    exact ⟨[], out, rfl, .nil, h2, h1⟩
  | (z, k, x) :: S, e, out, n, b, d, ⟨g1, g2, g3, g4⟩, he, h => by
    obtain ⟨o1, o2, b1, rfl, h1, h2⟩ := Rf.split (p := z) (q := x ++ Go.Proofs.YtajkjhkjgibcfaaDoor.spell S e) h
    obtain ⟨k1, k2, rfl⟩ := Rf.blanks g1 h1
    obtain ⟨o3, o4, b3, rfl, h3, h4⟩ := Rf.split h2
    obtain ⟨rfl, rfl⟩ := Rf.token g2 h3
    obtain ⟨S', e', rfl, r1, r2, r3⟩ := Rf.spell (n := n) g4 he h4
    exact ⟨(o1, k, _) :: S', e', rfl, .cons k1 k2 r1, r2, r3⟩
/-- With other blanks a flow is written just so. -/
theorem blanks_back {s out : By} {f : Flw} {b : Bool} (hs : s.length ≤ 1000000) (h : parseF s = .ok f) (hr : Rf false (printF f) out b) : ∃ g, parseF out = .ok g ∧ Like f g := by
  obtain ⟨S, e, h1, h2, h3, h4, -, h5⟩ := print_spell hs h
  rw [h1] at hr
  obtain ⟨S', e', rfl, r1, r2, r3⟩ := Rf.spell (n := 0) h2 h3 hr
  exact h5 S' e' r1 r2 r3
theorem Rf.step {p o z : By} {b b' : Bool} {c : UInt8} (h : Rf false p o b) (h' : Rf b [c] z b') : Rf false (p ++ [c]) (o ++ z) b' := h.app h'
end Go.Proofs.YtajkjhkjgibcfaaDoor

