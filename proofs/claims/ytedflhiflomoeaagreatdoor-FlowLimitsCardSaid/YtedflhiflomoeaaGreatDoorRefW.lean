import Derived.Test.YtedflhiflomoeaaGreatDoorRefV
import Derived.Test.YtedflhiflomoeaaGreatDoorRefH
set_option linter.unusedSimpArgs false
set_option linter.unusedVariables false
namespace Go.Proofs.YtedflhiflomoeaaGreatDoor
open Go.RowKit

def okQ (q : QS) : Bool := match q with | .ok _ => true | .error _ => false
def failQ (c : Int) (q : QS) : QS := match q with | .ok ts => .error (c, hereT ts) | .error e => .error e
theorem okx_any (R : Nat) (q : QS) (w : World) (h : RX w R q) : Calls Tryz.prog 16 #[.pointer (some ⟨R, 0, none⟩)] w fun e w' => e = .returned (.bool (okQ q)) ∧ Below w.heap.size w w' := by
  cases q with
  | ok ts => exact okr_any R ts none w h
  | error e => obtain ⟨ts, h⟩ := h; exact okr_any R ts (some e) w h
theorem failsx_any (c : Int) (R : Nat) (q : QS) (w : World) (h : RX w R q) : Calls Tryz.prog 11 #[.pointer (some ⟨R, 0, none⟩), .int .i64 c] w fun e w' => e = .returned (.tuple #[]) ∧ But R w w' ∧ RX w' R (failQ c q) := by
  cases q with
  | ok ts => exact (failsr_any R ts none c w h).mono fun e w' ⟨a, b, d⟩ => ⟨a, b, ts, d⟩
  | error e =>
    obtain ⟨ts, h⟩ := h
    exact (failsr_any R ts (some e) c w h).mono fun e w' ⟨a, b, d⟩ => ⟨a, b, ts, d⟩
def seeQ (x : By) (q : QS) : Bool := match q with | .ok ts => textT ts == x | .error _ => false
def takeQ (x : By) (q : QS) : QS := match q with | .ok ts => .ok (if textT ts = x then ts.tail else ts) | .error e => .error e
theorem seex_any (x : By) (R : Nat) (q : QS) (w : World) (h : RX w R q) (hx : x ≠ []) : Calls Tryz.prog 10 #[.pointer (some ⟨R, 0, none⟩), .string (ba x)] w fun e w' => e = .returned (.bool (seeQ x q)) ∧ Below w.heap.size w w' := by
  cases q with
  | ok ts => exact (seer_any x R ts none w h hx).mono fun e w' ⟨a, b⟩ => ⟨by rw [a]; simp [seeB, seeQ], b⟩
  | error e => obtain ⟨ts, h⟩ := h; exact seer_any x R ts (some e) w h hx
theorem takex_any (x : By) (R : Nat) (q : QS) (w : World) (h : RX w R q) (hx : x ≠ []) : Calls Tryz.prog 28 #[.pointer (some ⟨R, 0, none⟩), .string (ba x)] w fun e w' => e = .returned (.bool (seeQ x q)) ∧ But R w w' ∧ RX w' R (takeQ x q) := by
  cases q with
  | ok ts =>
    refine (taker_any x R ts none w h hx).mono fun e w' ⟨a, b, d⟩ => ⟨by rw [a]; simp [seeB, seeQ], b, ?_⟩
    show RF w' R (if textT ts = x then ts.tail else ts) none
    have e2 : takeT x ts none = if textT ts = x then ts.tail else ts := by
      unfold takeT seeB
      by_cases hc : textT ts = x <;> simp [hc]
    rw [← e2]; exact d
  | error e =>
    obtain ⟨ts, h⟩ := h
    exact (taker_any x R ts (some e) w h hx).mono fun e w' ⟨a, b, d⟩ => ⟨a, b, _, d⟩
/-- One part more is read of what is read in all. -/
theorem seq_step {α β : Type} {full : PE α} {q : QS} {P : List Tk → PE β} {C : β × List Tk → PE α} {s : β} (h : full = q.bind fun t => (P t).bind C) (hs : ∀ a t, q.bind P = .ok (a, t) → a = s) : full = ((q.bind P).map (·.2)).bind fun t => C (s, t) := by
  subst h
  cases q with
  | error e => rfl
  | ok t =>
    have hs : ∀ a t', P t = .ok (a, t') → a = s := hs
    show (P t).bind C = ((P t).map _).bind _
    cases hp : P t with
    | error e => rfl
    | ok x =>
      obtain ⟨a, t'⟩ := x
      obtain rfl := hs a t' hp
      rfl
theorem must_seq {α : Type} (x : By) {R : Nat} {q : QS} {w : World} (h : RX w R q) (hx : x ≠ []) {full : PE α} {C : Nat × List Tk → PE α} (E : full = q.bind fun t => (mustP x t).bind C) (hC : ∀ a b t, C (a, t) = C (b, t)) : Calls Tryz.prog 14 #[.pointer (some ⟨R, 0, none⟩), .string (ba x)] w fun e w' => ∃ q', e = .returned (.tuple #[]) ∧ But R w w' ∧ RX w' R q' ∧ full = q'.bind fun t => C (0, t) := by
  refine (mustr_any x R q w h hx).mono fun e w' ⟨a, b, d⟩ => ⟨thenQ q (mustP x), a, b, d, ?_⟩
  subst E
  cases q with
  | error e => rfl
  | ok t =>
    show (mustP x t).bind C = ((mustP x t).map _).bind _
    cases hp : mustP x t with
    | error e => rfl
    | ok y =>
      obtain ⟨a, t'⟩ := y
      exact hC a 0 t'
theorem must_err (x : By) {R : Nat} {er : Int × Nat} {w : World} (h : RX w R (.error er)) (hx : x ≠ []) : Calls Tryz.prog 14 #[.pointer (some ⟨R, 0, none⟩), .string (ba x)] w fun e w' => e = .returned (.tuple #[]) ∧ But R w w' ∧ RX w' R (.error er) := mustr_any x R _ w h hx
theorem name_seq {α : Type} {R : Nat} {q : QS} {w : World} (h : RX w R q) {full : PE α} {C : By × List Tk → PE α} (E : full = q.bind fun t => (nameP t).bind C) : Calls Tryz.prog 15 #[.pointer (some ⟨R, 0, none⟩)] w fun e w' => ∃ (q' : QS) (s : By), e = .returned (.string (ba s)) ∧ s.length ≤ 1000 ∧ But R w w' ∧ RX w' R q' ∧ full = q'.bind fun t => C (s, t) := by
  refine (namer_any R q w h).mono ?_
  rintro e w' ⟨v, rfl, ⟨s, rfl, hl⟩, hb, henc, hx⟩
  exact ⟨_, s, rfl, hl, hb, hx, seq_step E fun a t ha => by
    have := henc a t ha
    unfold encT at this
    simpa using this.symm⟩
theorem mark_seq {α : Type} (W : By) (L : List By) {R : Nat} {q : QS} {w : World} (h : RX w R q) (hW : W.length ≤ 100) (hL : ∀ x ∈ L, x ≠ [] ∧ x.length ≤ 1000) (h1 : ∀ x ∈ segsL (32 :: W ++ [32]), x ∈ L ∨ x = []) (h2 : ∀ x ∈ L, oneOfB x W = true) {full : PE α} {C : By × List Tk → PE α} (E : full = q.bind fun t => (oneOfP L t).bind C) : Calls Tryz.prog 29 #[.pointer (some ⟨R, 0, none⟩), .string (ba W)] w fun e w' => ∃ (q' : QS) (s : By), e = .returned (.string (ba s)) ∧ s.length ≤ 1000 ∧ But R w w' ∧ RX w' R q' ∧ full = q'.bind fun t => C (s, t) := by
  refine (markr_any W L R q w h hW hL h1 h2).mono ?_
  rintro e w' ⟨v, rfl, ⟨s, rfl, hl⟩, hb, henc, hx⟩
  exact ⟨_, s, rfl, hl, hb, hx, seq_step E fun a t ha => by
    have := henc a t ha
    unfold encT at this
    simpa using this.symm⟩
theorem arg_seq {α : Type} {R : Nat} {q : QS} {w : World} (h : RX w R q) {full : PE α} {C : Ag × List Tk → PE α} (E : full = q.bind fun t => (argP t).bind C) : Calls Tryz.prog 49 #[.pointer (some ⟨R, 0, none⟩)] w fun e w' => ∃ (q' : QS) (s : Ag), e = .returned (.agg #[.string (ba s.1), .int .i64 s.2.1, .int .i64 s.2.2.1, .string (ba s.2.2.2)]) ∧ But R w w' ∧ RX w' R q' ∧ full = q'.bind fun t => C (s, t) := by
  refine (argr_any R q w h).mono ?_
  rintro e w' ⟨v, rfl, ⟨a, k, n, b, rfl⟩, hb, henc, hx⟩
  refine ⟨_, (a, k, n, b), rfl, hb, hx, seq_step E fun z t hz => ?_⟩
  have := henc z t hz
  unfold encA at this
  obtain ⟨z1, z2, z3, z4⟩ := z
  simp only [Value.agg.injEq, Array.mk.injEq, List.cons.injEq, Value.string.injEq, Value.int.injEq, and_true, true_and, ByteArray.mk.injEq] at this
  obtain ⟨e1, e2, e3, e4⟩ := this
  simp_all
def SlV (v : Value) : Prop := ∃ a n c, v = .slice a n c
theorem some_seq {α : Type} {R : Nat} {q : QS} {w : World} (h : RX w R q) {full : PE α} {C : List By × List Tk → PE α} (E : full = q.bind fun t => (namesP t).bind C) : Calls Tryz.prog 30 #[.pointer (some ⟨R, 0, none⟩)] w fun e w' => ∃ (q' : QS) (l : List By) (a : Option Addr) (n c : Nat), e = .returned (.slice a n c) ∧ But R w w' ∧ RX w' R q' ∧ (full = q'.bind fun t => C (l, t)) ∧ (okQ q' = true → encL w.heap.size l (.slice a n c) w') := by
  refine (somer_any R q w h).mono ?_
  rintro e w' ⟨v, rfl, ⟨a, n, c, rfl, -⟩, hb, henc, hx⟩
  cases hp : q.bind namesP with
  | error er =>
    rw [hp] at hx
    refine ⟨.error er, [], a, n, c, rfl, hb, hx, ?_, fun h => by cases h⟩
    subst E
    cases q with
    | error e => exact congrArg Except.error (by cases hp; rfl)
    | ok t =>
      have hp : namesP t = .error er := hp
      show (namesP t).bind C = _
      rw [hp]; rfl
  | ok y =>
    obtain ⟨l, t'⟩ := y
    rw [hp] at hx
    refine ⟨.ok t', l, a, n, c, rfl, hb, hx, ?_, fun _ => henc l t' hp⟩
    subst E
    cases q with
    | error e => cases hp
    | ok t =>
      have hp : namesP t = .ok (l, t') := hp
      show (namesP t).bind C = _
      rw [hp]; rfl
theorem seq_end {α : Type} {full : PE α} {q : QS} {j : α} (h : full = q.bind fun t => .ok (j, t)) : full.map (·.2) = q ∧ ∀ a t, full = .ok (a, t) → a = j ∧ okQ q = true := by
  subst h
  cases q with
  | error e => exact ⟨rfl, fun a t h => by cases h⟩
  | ok t => exact ⟨rfl, fun a t' h => by cases h; exact ⟨rfl, rfl⟩⟩
theorem RX.set {w : World} {R k i : Nat} {v : Value} {q : QS} (h : RX w R q) (hk : R < k) : RX (w.setCell ⟨k, i, none⟩ v) R q := by
  cases q with
  | ok ts => exact RF.set h hk
  | error e => obtain ⟨ts, h⟩ := h; exact ⟨ts, h.set hk⟩
theorem RX.alloc {w : World} {R : Nat} {q : QS} (h : RX w R q) (o : Obj) : RX (w.alloc o) R q := h.below (below_box _ _)
theorem RX.drew {w : World} {R : Nat} {q : QS} (h : RX w R q) : RX w.drew R q := h.below (Below.refl _ _).drew
/-- Where a walk of body stands. -/
structure SB (w : World) (R K : Nat) (w' : World) (q : QS) (vs : List Value) : Prop where
  x : RX w' R q
  b : But2 R K w w'
  box : Box w' K vs
theorem SB.call {w w1 w2 : World} {R K : Nat} {q q' : QS} {vs : List Value} (h : SB w R K w1 q vs) (hKR : R < K) (hb : But R w1 w2) (hx : RX w2 R q') : SB w R K w2 q' vs := ⟨hx, h.b.then hb, h.box.but hb (by omega)⟩
theorem SB.below {w w1 w2 : World} {R K : Nat} {q : QS} {vs : List Value} (h : SB w R K w1 q vs) (hb : Below w1.heap.size w1 w2) : SB w R K w2 q vs := ⟨h.x.below hb, h.b.then (But.of hb), h.box.below hb⟩
theorem SB.alloc {w w1 : World} {R K : Nat} {q : QS} {vs : List Value} (h : SB w R K w1 q vs) (o : Obj) : SB w R K (w1.alloc o) q vs := h.below (below_box _ _)
theorem SB.drew {w w1 : World} {R K : Nat} {q : QS} {vs : List Value} (h : SB w R K w1 q vs) : SB w R K w1.drew q vs := h.below (Below.refl _ _).drew
theorem SB.store {w w1 : World} {R K : Nat} {q : QS} {vs : List Value} (h : SB w R K w1 q vs) (hKR : R < K) (i : Nat) (v : Value) : SB w R K (w1.setCell ⟨K, i, none⟩ v) q (vs.set i v) := ⟨h.x.set hKR, h.b.put (Or.inl rfl) v, h.box.set i v⟩
theorem SB.grown {w w1 w2 : World} {R K : Nat} {q : QS} {vs : List Value} {row : Option Nat} (h : SB w R K w1 q vs) (hKR : R < K) (hK : K < w.heap.size) (hg : w1.grownBy w2 row) (hr : ∀ k, row = some k → w.heap.size ≤ k) : SB w R K w2 q vs :=
  ⟨h.x.grown hg (fun k hk => by have := hr k hk; omega), h.b.grown hg hr, h.box.grown hg (fun e => by have := hr K e; omega)⟩
/-- What comes of a job's body. -/
def BodyQ (p : PE FJob) (vo : Value) (R K : Nat) (w w' : World) : Prop := RX w' R (p.map (·.2)) ∧ But2 R K w w' ∧ ∃ (j' : FJob) (vi vc : Value), Box w' K (jobV j' vo vi vc) ∧ SlV vi ∧ SlV vc ∧ ∀ j t, p = .ok (j, t) → j = j' ∧ encL w.heap.size j.ins vi w' ∧ encL w.heap.size j.cols vc w'
theorem body_end {p : PE FJob} {q : QS} {j' : FJob} {vo vi vc : Value} {R K : Nat} {w w' : World} (E : p = q.bind fun t => .ok (j', t)) (S : SB w R K w' q (jobV j' vo vi vc)) (hvi : SlV vi) (hvc : SlV vc) (hi : okQ q = true → encL w.heap.size j'.ins vi w') (hc : okQ q = true → encL w.heap.size j'.cols vc w') : BodyQ p vo R K w w' := by
  obtain ⟨e1, e2⟩ := seq_end E
  refine ⟨by rw [e1]; exact S.x, S.b, j', vi, vc, S.box, hvi, hvc, fun j t h => ?_⟩
  obtain ⟨rfl, ho⟩ := e2 j t h
  exact ⟨rfl, hi ho, hc ho⟩
theorem body_bad {p : PE FJob} {er : Int × Nat} (j' : FJob) {vo vi vc : Value} {R K : Nat} {w w' : World} (E : p = .error er) (S : SB w R K w' (.error er) (jobV j' vo vi vc)) (hvi : SlV vi) (hvc : SlV vc) : BodyQ p vo R K w w' := by
  subst E
  exact ⟨S.x, S.b, j', vi, vc, S.box, hvi, hvc, fun j t h => by cases h⟩
/-- What stands behind a job's first name. -/
def restP (at_ : Nat) (outs : List By) (retry : Int) (c : Int) (i : By × List Tk) : PE FJob :=
  if c = 1 ∨ c = 9 then
    (mustP wWhere i.2).bind fun m => (nameP m.2).bind fun l => (oneOfP cmpL l.2).bind fun o => (argP o.2).bind fun r =>
    .ok (⟨at_, c, outs, [i.1], [], o.1, (l.1, 0, 0, []), r.1, retry⟩, r.2)
  else if c = 2 then
    (mustP [58] i.2).bind fun m => (nameP m.2).bind fun n => (mustP [61] n.2).bind fun q => (argP q.2).bind fun l => (oneOfP ariL l.2).bind fun o => (argP o.2).bind fun r =>
    .ok (⟨at_, c, outs, [i.1], [n.1], o.1, l.1, r.1, retry⟩, r.2)
  else if c = 3 ∨ c = 4 then
    (mustP wBy i.2).bind fun m => (namesP m.2).bind fun n =>
    .ok (⟨at_, c, outs, [i.1], n.1, [], agg0, agg0, retry⟩, n.2)
  else if c = 5 then
    (mustP [44] i.2).bind fun m => (nameP m.2).bind fun n =>
    .ok (⟨at_, c, outs, [i.1, n.1], [], [], agg0, agg0, retry⟩, n.2)
  else if c = 7 then
    (mustP [46] i.2).bind fun m => (nameP m.2).bind fun a => (mustP [44] a.2).bind fun q => (nameP q.2).bind fun j => (mustP [46] j.2).bind fun d => (nameP d.2).bind fun b =>
    .ok (⟨at_, c, outs, [i.1, j.1], [a.1, b.1], [], agg0, agg0, retry⟩, b.2)
  else if c = 8 then
    (mustP wBy i.2).bind fun m => (nameP m.2).bind fun a => (oneOfP [wSum, wMax] a.2).bind fun o => (nameP o.2).bind fun b =>
    .ok (⟨at_, c, outs, [i.1], [a.1, b.1], o.1, agg0, agg0, retry⟩, b.2)
  else .ok (⟨at_, c, outs, [i.1], [], [], agg0, agg0, retry⟩, i.2)
theorem body_rest (at_ : Nat) (outs : List By) (retry : Int) (ts : List Tk) : bodyP at_ outs retry ts = (codeP ts).bind fun c => (nameP c.2).bind fun i => restP at_ outs retry c.1 i := rfl
theorem body_code {at_ : Nat} {outs : List By} {retry c : Int} {ts t : List Tk} (h : codeP ts = .ok (c, t)) : bodyP at_ outs retry ts = Except.bind (.ok t : QS) fun t => (nameP t).bind fun i => restP at_ outs retry c i := by
  rw [body_rest, h]; rfl
/-- The number of the verb, as the loop finds it. -/
def codeU (x : By) : Nat → Int
  | 0 => 0
  | i + 1 => if (verbsL[i]?).getD [] = x then (i : Int) + 1 else codeU x i
theorem codeU_is (ts : List Tk) : codeP ts = if codeU (textT ts) 9 = 0 then wrongP 3 ts else .ok (codeU (textT ts) 9, ts.tail) := by
  unfold codeP
  generalize textT ts = x
  by_cases h1 : x = [102, 105, 108, 116, 101, 114]
  · subst h1; rfl
  by_cases h2 : x = [115, 101, 116]
  · subst h2; rfl
  by_cases h3 : x = [112, 114, 111, 106, 101, 99, 116]
  · subst h3; rfl
  by_cases h4 : x = [115, 111, 114, 116]
  · subst h4; rfl
  by_cases h5 : x = [117, 110, 105, 111, 110]
  · subst h5; rfl
  by_cases h6 : x = [100, 105, 115, 116, 105, 110, 99, 116]
  · subst h6; rfl
  by_cases h7 : x = [106, 111, 105, 110]
  · subst h7; rfl
  by_cases h8 : x = [103, 114, 111, 117, 112]
  · subst h8; rfl
  by_cases h9 : x = [115, 112, 108, 105, 116]
  · subst h9; rfl
  have hc : codeU x 9 = 0 := by
    simp [codeU, verbsL, Ne.symm h1, Ne.symm h2, Ne.symm h3, Ne.symm h4, Ne.symm h5, Ne.symm h6, Ne.symm h7, Ne.symm h8, Ne.symm h9]
  have hn : verbsL.findIdx? (· == x) = none := by
    simp [verbsL, List.findIdx?_cons, Ne.symm h1, Ne.symm h2, Ne.symm h3, Ne.symm h4, Ne.symm h5, Ne.symm h6, Ne.symm h7, Ne.symm h8, Ne.symm h9]
  rw [hc, hn, if_pos rfl]
set_option maxRecDepth 100000 in
theorem split_verbs (w : World) (hE : REnv w) : Calls Tryz.prog 26 #[.string ⟨#[102, 105, 108, 116, 101, 114, 32, 115, 101, 116, 32, 112, 114, 111, 106, 101, 99, 116, 32, 115, 111, 114, 116, 32, 117, 110, 105, 111, 110, 32, 100, 105, 115, 116, 105, 110, 99, 116, 32, 106, 111, 105, 110, 32, 103, 114, 111, 117, 112, 32, 115, 112, 108, 105, 116]⟩, .string ⟨#[32]⟩] w fun e w' => e = .returned (.slice (some ⟨w.heap.size, 0, none⟩) 9 9) ∧ w' = w.alloc (.cells (verbsL.map fun m => Value.string (ba m)).toArray 9) := by
  obtain ⟨m, hm⟩ := hE.ml
  refine (Tryz.strings_Split ⟨#[102, 105, 108, 116, 101, 114, 32, 115, 101, 116, 32, 112, 114, 111, 106, 101, 99, 116, 32, 115, 111, 114, 116, 32, 117, 110, 105, 111, 110, 32, 100, 105, 115, 116, 105, 110, 99, 116, 32, 106, 111, 105, 110, 32, 103, 114, 111, 117, 112, 32, 115, 112, 108, 105, 116]⟩ ⟨#[32]⟩ m w (by decide) hm (by decide)).mono ?_
  rintro e w' ⟨rfl, rfl⟩
  exact ⟨by kernel_rfl, by kernel_rfl⟩
theorem okx_ok {R : Nat} {ts : List Tk} {w : World} (h : RX w R (.ok ts)) : Calls Tryz.prog 16 #[.pointer (some ⟨R, 0, none⟩)] w fun e w' => e = .returned (.bool true) ∧ Below w.heap.size w w' := okx_any R _ w h
theorem okx_err {R : Nat} {er : Int × Nat} {w : World} (h : RX w R (.error er)) : Calls Tryz.prog 16 #[.pointer (some ⟨R, 0, none⟩)] w fun e w' => e = .returned (.bool false) ∧ Below w.heap.size w w' := okx_any R _ w h
theorem verb_ne : ∀ j, j < 9 → (verbsL[j]?).getD [] ≠ [] := by decide
theorem verb_len : ∀ j, j < 9 → ((verbsL[j]?).getD []).length ≤ 8 := by decide
theorem codeU_step (x : By) (j : Nat) : codeU x (j + 1) = if (verbsL[j]?).getD [] = x then (j : Int) + 1 else codeU x j := rfl
theorem codeU_range (x : By) : codeU x 9 = 0 ∨ codeU x 9 = 1 ∨ codeU x 9 = 2 ∨ codeU x 9 = 3 ∨ codeU x 9 = 4 ∨ codeU x 9 = 5 ∨ codeU x 9 = 6 ∨ codeU x 9 = 7 ∨ codeU x 9 = 8 ∨ codeU x 9 = 9 := by
  simp only [codeU]
  repeat' split
  all_goals simp
theorem codeU_nil : codeU [] 9 = 0 := rfl
theorem must_self {ts : List Tk} : thenQ (.ok ts) (mustP (textT ts)) = .ok ts.tail := by
  show Except.map (·.2) (mustP (textT ts) ts) = _
  unfold mustP
  rw [if_pos rfl]
  rfl
end Go.Proofs.YtedflhiflomoeaaGreatDoor
