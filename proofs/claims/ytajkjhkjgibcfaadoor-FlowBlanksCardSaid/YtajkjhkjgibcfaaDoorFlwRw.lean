import Derived.Test.YtajkjhkjgibcfaaDoorFlwW
set_option linter.unusedSimpArgs false
set_option linter.unusedVariables false
namespace Go.Proofs.YtajkjhkjgibcfaaDoor
open Go.RowKit

/-- A token that is whole: its kind, its text. -/
def WT (k : Nat) (x : By) : Prop :=
  (k = 0 ∧ ∃ c r, x = c :: r ∧ lowB c = true ∧ ∀ d ∈ r, lowdigB d = true) ∨
  (k = 1 ∧ x ≠ [] ∧ ∀ d ∈ x, digB d = true) ∨
  (k = 2 ∧ ∃ l, x = 39 :: (l ++ [39]) ∧ (39 : UInt8) ∉ l) ∨
  (k = 3 ∧ x ∈ marksL)
/-- What may follow a token so that it ends there. -/
def EndsAt (k : Nat) (r : By) : Prop := r = [] ∨ ∃ c r', r = c :: r' ∧ (k = 0 → lowdigB c = false) ∧ (k = 1 → digB c = false) ∧ (k = 3 → c ≠ 61 ∧ c ≠ 62)
theorem runTk_all {p : UInt8 → Bool} : ∀ (x r : By), (∀ d ∈ x, p d = true) → (r = [] ∨ ∃ c r', r = c :: r' ∧ p c = false) → runL p (x ++ r) = x.length
  | [], r, _, hr => by
    rcases hr with rfl | ⟨c, r', rfl, hc⟩
    · rfl
    · simp [runL, hc]
  | a :: x, r, hx, hr => by
    have ih := runTk_all x r (fun d hd => hx d (List.mem_cons_of_mem _ hd)) hr
    have ha := hx a List.mem_cons_self
    unfold runL at ih ⊢
    simp [List.takeWhile_cons, ha, ih]
theorem low_not_dig {c : UInt8} (h : digB c = true) : lowB c = false := by
  simp [digB, lowB] at *
  omega
theorem find_quote : ∀ (l r : By), (39 : UInt8) ∉ l → (l ++ 39 :: r).findIdx? (· == 39) = some l.length
  | [], r, _ => by simp [List.findIdx?_cons]
  | a :: l, r, h => by
    have h1 : a ≠ 39 := fun e => h (by simp [e])
    have ih := find_quote l r (fun e => h (List.mem_cons_of_mem _ e))
    simp [List.findIdx?_cons, h1, ih]
theorem first_tok {k : Nat} {x r : By} (h : WT k x) (hr : EndsAt k r) : firstL (x ++ r) = some (k, x.length) := by
  rcases h with ⟨rfl, c, y, rfl, hc, hy⟩ | ⟨rfl, hne, hx⟩ | ⟨rfl, l, rfl, hl⟩ | ⟨rfl, hm⟩
  · have := runTk_all (p := lowdigB) (c :: y) r (by
      intro d hd
      rcases List.mem_cons.1 hd with rfl | hd
      · simp [lowdigB, hc]
      · exact hy d hd) (by
      rcases hr with rfl | ⟨d, r', rfl, h0, -⟩
      · exact Or.inl rfl
      · exact Or.inr ⟨d, r', rfl, h0 rfl⟩)
    simp only [List.cons_append] at this ⊢
    simp [firstL, hc, this]
  · cases x with
    | nil => exact absurd rfl hne
    | cons c y =>
      have := runTk_all (p := digB) (c :: y) r hx (by
        rcases hr with rfl | ⟨d, r', rfl, -, h0, -⟩
        · exact Or.inl rfl
        · exact Or.inr ⟨d, r', rfl, h0 rfl⟩)
      have hd := hx c List.mem_cons_self
      simp only [List.cons_append] at this ⊢
      simp [firstL, hd, low_not_dig hd, this]
  · have := find_quote l r hl
    have e : 39 :: (l ++ [39]) ++ r = 39 :: (l ++ 39 :: r) := by simp
    rw [e]
    simp [firstL, lowB, digB, this]
  · have hq : r.head? ≠ some 61 ∧ r.head? ≠ some 62 := by
      rcases hr with rfl | ⟨d, r', rfl, -, -, h0⟩
      · simp
      · have := h0 rfl
        simpa using this
    cases r with
    | nil =>
      simp only [List.append_nil]
      revert hm
      revert x
      decide
    | cons d r' =>
      simp only [List.head?_cons, ne_eq, Option.some.injEq] at hq
      have q1 : (62 == d) = false := by simpa using fun e : 62 = d => hq.2 e.symm
      have q2 : (61 == d) = false := by simpa using fun e : 61 = d => hq.1 e.symm
      simp only [marksL, List.mem_cons, List.not_mem_nil, or_false] at hm
      rcases hm with rfl | rfl | rfl | rfl | rfl | rfl | rfl | rfl | rfl | rfl | rfl | rfl | rfl <;> simp [firstL, lowB, digB, marksL, List.isPrefixOf, q1, q2]
/-- A text as blanks and tokens, and blanks behind. -/
def spell : List (By × Nat × By) → By → By
  | [], e => e
  | t :: l, e => t.1 ++ (t.2.2 ++ spell l e)
def Spelt : List (By × Nat × By) → By → Prop
  | [], e => ∀ c ∈ e, blankB c = true
  | t :: l, e => (∀ c ∈ t.1, blankB c = true) ∧ WT t.2.1 t.2.2 ∧ EndsAt t.2.1 (spell l e) ∧ Spelt l e
theorem WT.ne {k : Nat} {x : By} (h : WT k x) : ∃ c r, x = c :: r ∧ blankB c = false := by
  rcases h with ⟨rfl, c, y, rfl, hc, hy⟩ | ⟨rfl, hne, hx⟩ | ⟨rfl, l, rfl, hl⟩ | ⟨rfl, hm⟩
  · refine ⟨c, y, rfl, ?_⟩
    simp [lowB, blankB] at *
    constructor <;> (rintro rfl; simp at hc)
  · cases x with
    | nil => exact absurd rfl hne
    | cons c y =>
      refine ⟨c, y, rfl, ?_⟩
      have hc := hx c List.mem_cons_self
      simp [digB, blankB] at *
      constructor <;> (rintro rfl; simp at hc)
  · exact ⟨39, _, rfl, by decide⟩
  · simp only [marksL, List.mem_cons, List.not_mem_nil, or_false] at hm
    rcases hm with rfl | rfl | rfl | rfl | rfl | rfl | rfl | rfl | rfl | rfl | rfl | rfl | rfl <;> exact ⟨_, _, rfl, by decide⟩
theorem toks_spell : ∀ (l : List (By × Nat × By)) (e : By) (f p n : Nat), Spelt l e → (spell l e).length < f → n + l.length ≤ 400 → ∃ ts, toksL f (spell l e) p n = .ok ts ∧ ts.map (fun t => (t.1, t.2.1)) = l.map (·.2)
  | l, e, 0, p, n, _, hf, _ => absurd hf (by omega)
  | [], e, f + 1, p, n, h, hf, hn => by
    refine ⟨[], ?_, rfl⟩
    have hr := runTk_all (p := blankB) e [] h (Or.inl rfl)
    rw [List.append_nil] at hr
    unfold toksL
    rw [show spell [] e = e from rfl, hr, List.drop_length, if_pos rfl]
  | t :: l, e, f + 1, p, n, h, hf, hn => by
    obtain ⟨h1, h2, h3, h4⟩ := h
    obtain ⟨b, k, x⟩ := t
    obtain ⟨c, y, hx, hc⟩ := h2.ne
    dsimp only at h1 h2 h3 hx
    have hs : spell ((b, k, x) :: l) e = b ++ (x ++ spell l e) := rfl
    have hr := runTk_all (p := blankB) b (x ++ spell l e) h1 (Or.inr ⟨c, y ++ spell l e, by rw [hx]; rfl, hc⟩)
    have hxl : 1 ≤ x.length := by rw [hx]; simp
    rw [hs] at hf
    simp only [List.length_append] at hf
    simp only [List.length_cons] at hn
    obtain ⟨ts, h5, h6⟩ := toks_spell l e f (p + b.length + x.length) (n + 1) h4 (by omega) (by omega)
    refine ⟨(k, x, p + b.length) :: ts, ?_, by simp [h6]⟩
    unfold toksL
    rw [hs, hr, List.drop_left, if_neg (by rw [hx]; simp), first_tok h2 h3]
    simp only
    rw [if_neg (by omega), List.drop_left, h5]
    simp only [List.take_left]
theorem tokens_spell {l : List (By × Nat × By)} {e : By} (h : Spelt l e) (hl : l.length ≤ 400) : ∃ ts, tokensL (spell l e) = .ok (ts ++ [(4, [], (spell l e).length)]) ∧ ts.map (fun t => (t.1, t.2.1)) = l.map (·.2) := by
  obtain ⟨ts, h1, h2⟩ := toks_spell l e ((spell l e).length + 1) 0 0 h (by omega) (by omega)
  exact ⟨ts, by unfold tokensL; rw [h1], h2⟩
end Go.Proofs.YtajkjhkjgibcfaaDoor

namespace Go.Proofs.YtajkjhkjgibcfaaDoor
open Go.RowKit

/-- Tokens without their places. -/
abbrev Kt := Nat × By
def kt (ts : List Tk) : List Kt := ts.map fun t => (t.1, t.2.1)
theorem kt_head {ts : List Tk} {k : Nat} {x : By} {R : List Kt} (h : kt ts = (k, x) :: R) : kindT ts = k ∧ textT ts = x ∧ kt ts.tail = R := by
  cases ts with
  | nil => simp [kt] at h
  | cons t r =>
    simp [kt] at h
    exact ⟨h.1.1, h.1.2, h.2⟩
theorem kt_text {ts : List Tk} {R : List Kt} (h : kt ts = R) : textT ts = (R.head?.map (·.2)).getD [] := by
  subst h
  cases ts <;> simp [kt, textT]
theorem kt_len {ts : List Tk} {R : List Kt} (h : kt ts = R) : ts.length = R.length := by rw [← h]; simp [kt]
/-- A reader that reads these tokens, whatever follows. -/
def Reads {α : Type} (p : List Tk → PE α) (K : List Kt) (Q : α → Prop) : Prop := ∀ ts R, kt ts = K ++ R → ∃ a ts', p ts = .ok (a, ts') ∧ Q a ∧ kt ts' = R
/-- .. where what follows must be such. -/
def ReadsIf {α : Type} (p : List Tk → PE α) (K : List Kt) (S : List Kt → Prop) (Q : α → Prop) : Prop := ∀ ts R, kt ts = K ++ R → S R → ∃ a ts', p ts = .ok (a, ts') ∧ Q a ∧ kt ts' = R
theorem name_reads {x : By} (h : x.length ≤ 10) : Reads nameP [(0, x)] (· = x) := by
  intro ts R hk
  obtain ⟨h1, h2, h3⟩ := kt_head hk
  refine ⟨x, ts.tail, ?_, rfl, h3⟩
  unfold nameP
  rw [h1, h2, if_neg (by simp), if_neg (by omega)]
theorem must_reads (k : Nat) (x : By) : Reads (mustP x) [(k, x)] (fun _ => True) := by
  intro ts R hk
  obtain ⟨h1, h2, h3⟩ := kt_head hk
  exact ⟨_, ts.tail, by unfold mustP; rw [if_pos h2], trivial, h3⟩
theorem oneOf_reads {xs : List By} {k : Nat} {x : By} (h : x ∈ xs) : Reads (oneOfP xs) [(k, x)] (· = x) := by
  intro ts R hk
  obtain ⟨h1, h2, h3⟩ := kt_head hk
  exact ⟨x, ts.tail, by unfold oneOfP; rw [h2, if_pos h], rfl, h3⟩
theorem num_reads {most : Int} {x : By} (h : atoiN x ≤ most) : Reads (numP most) [(1, x)] (· = atoiN x) := by
  intro ts R hk
  obtain ⟨h1, h2, h3⟩ := kt_head hk
  exact ⟨_, ts.tail, by unfold numP; rw [h1, h2, if_neg (by simp), if_neg (by omega)], rfl, h3⟩
theorem quo_reads {l : By} (h : rightValueB 2 0 l = true) : Reads quoP [(2, 39 :: (l ++ [39]))] (· = l) := by
  intro ts R hk
  obtain ⟨h1, h2, h3⟩ := kt_head hk
  have hi : innerL (39 :: (l ++ [39])) = l := by simp [innerL]
  exact ⟨l, ts.tail, by unfold quoP; rw [h1, h2, hi, if_neg (by simp), if_neg (by rw [h]; simp)], rfl, h3⟩
/-- One reader behind another. -/
theorem Reads.bind {α β : Type} {p : List Tk → PE α} {q : α → List Tk → PE β} {K L : List Kt} {Q : α → Prop} {S : β → Prop} (hp : Reads p K Q) (hq : ∀ a, Q a → Reads (q a) L S) : Reads (fun ts => (p ts).bind fun x => q x.1 x.2) (K ++ L) S := by
  intro ts R hk
  rw [List.append_assoc] at hk
  obtain ⟨a, ts1, h1, h2, h3⟩ := hp ts _ hk
  obtain ⟨b, ts2, h4, h5, h6⟩ := hq a h2 ts1 R h3
  exact ⟨b, ts2, by show (p ts).bind _ = _; rw [h1]; exact h4, h5, h6⟩
def notText (x : By) (R : List Kt) : Prop := (R.head?.map (·.2)).getD [] ≠ x
/-- Names behind commas. -/
def namesK : List By → List Kt
  | [] => []
  | x :: l => (3, [44]) :: (0, x) :: namesK l
theorem more_reads : ∀ (l : List By) (g : Nat) (acc : List By), (∀ x ∈ l, x.length ≤ 10) → l.length ≤ g → ReadsIf (moreP g acc) (namesK l) (notText [44]) (· = acc ++ l)
  | [], 0, acc, _, _ => by
    intro ts R hk hR
    exact ⟨acc, ts, rfl, by simp, hk⟩
  | [], g + 1, acc, _, _ => by
    intro ts R hk hR
    refine ⟨acc, ts, ?_, by simp, hk⟩
    unfold moreP
    rw [if_neg (by rw [kt_text hk]; exact hR)]
  | x :: l, 0, acc, _, hg => absurd hg (by simp)
  | x :: l, g + 1, acc, hl, hg => by
    intro ts R hk hR
    obtain ⟨h1, h2, h3⟩ := kt_head (show kt ts = (3, [44]) :: ((0, x) :: (namesK l ++ R)) from hk)
    obtain ⟨a, ts1, h4, rfl, h5⟩ := name_reads (hl x List.mem_cons_self) ts.tail _ (show kt ts.tail = [(0, x)] ++ (namesK l ++ R) from h3)
    obtain ⟨b, ts2, h6, rfl, h7⟩ := more_reads l g (acc ++ [a]) (fun y hy => hl y (List.mem_cons_of_mem _ hy)) (by simpa using hg) ts1 R h5 hR
    refine ⟨acc ++ a :: l, ts2, ?_, rfl, h7⟩
    unfold moreP
    rw [if_pos h2, h4]
    show moreP g (acc ++ [a]) ts1 = _
    rw [h6]
    simp
theorem names_reads {x : By} {l : List By} (hx : x.length ≤ 10) (hl : ∀ y ∈ l, y.length ≤ 10) : ReadsIf namesP ((0, x) :: namesK l) (notText [44]) (· = x :: l) := by
  intro ts R hk hR
  obtain ⟨a, ts1, h4, rfl, h5⟩ := name_reads hx ts _ (show kt ts = [(0, x)] ++ (namesK l ++ R) from hk)
  have hlen := kt_len h5
  obtain ⟨b, ts2, h6, rfl, h7⟩ := more_reads l ts1.length [a] hl (by
    rw [hlen, List.length_append]
    have : ∀ l : List By, l.length ≤ (namesK l).length := by
      intro l
      induction l with
      | nil => simp
      | cons y l ih => simp only [namesK, List.length_cons]; omega
    have := this l
    omega) ts1 R h5 hR
  exact ⟨_, ts2, by unfold namesP; rw [h4]; exact h6, rfl, h7⟩
theorem pu_app : ∀ (x y : List UInt8) (acc u : Nat), Lib.parseUint10 acc x = .ok u → Lib.parseUint10 acc (x ++ y) = Lib.parseUint10 u y
  | [], y, acc, u, h => by simp only [Lib.parseUint10] at h; injection h with h; rw [h]; rfl
  | c :: r, y, acc, u, h => by
    simp only [Lib.parseUint10, List.cons_append] at h ⊢
    split at h
    · split at h
      · cases h
      · split at h
        · cases h
        · rename_i h1 h2 h3
          rw [if_pos h1, if_neg h2, if_neg h3]
          exact pu_app r y _ u h
    · cases h
theorem dig_toNat (d : Nat) (h : d < 10) : (UInt8.ofNat (48 + d)).toNat = 48 + d := by simp; omega
theorem pu_dec (u : Nat) : u < 1000000000000 → Lib.parseUint10 0 (Lib.decDigits u) = .ok u := by
  induction u using Nat.strongRecOn with
  | _ u ih =>
    intro hu
    rw [Lib.decDigits]
    split
    · rename_i h
      simp only [Lib.parseUint10, dig_toNat u h]
      rw [if_pos (by omega), if_neg (by omega), if_neg (by omega)]
      congr 1
      omega
    · rename_i h
      rw [pu_app _ _ 0 (u / 10) (ih (u / 10) (by omega) (by omega))]
      simp only [Lib.parseUint10, dig_toNat (u % 10) (Nat.mod_lt _ (by omega))]
      rw [if_pos (by omega), if_neg (by omega), if_neg (by omega)]
      congr 1
      omega
theorem dec_ne (u : Nat) : Lib.decDigits u ≠ [] := by
  rw [Lib.decDigits]; split <;> simp
theorem dec_digits (u : Nat) : ∀ c ∈ Lib.decDigits u, 48 ≤ c.toNat ∧ c.toNat ≤ 57 := by
  induction u using Nat.strongRecOn with
  | _ u ih =>
    intro c hc
    rw [Lib.decDigits] at hc
    split at hc
    · rename_i h
      simp only [List.mem_cons, List.not_mem_nil, or_false] at hc
      rw [hc, dig_toNat u h]; omega
    · rename_i h
      rw [List.mem_append] at hc
      rcases hc with hc | hc
      · exact ih (u / 10) (by omega) c hc
      · simp only [List.mem_cons, List.not_mem_nil, or_false] at hc
        rw [hc, dig_toNat _ (Nat.mod_lt _ (by omega))]
        have := Nat.mod_lt u (show 0 < 10 by omega)
        omega

/-- A number that is written is read as it was. -/
theorem atoi_itoa (n : Int) (h0 : -1000000000 ≤ n) (h1 : n ≤ 1000000000) : Lib.atoiAll (Lib.itoa n) = .ok n := by
  unfold Lib.itoa
  split
  · rename_i hn
    have hne := dec_ne n.natAbs
    have hp : Lib.parseMag (Lib.decDigits n.natAbs) = .ok n.natAbs := by
      unfold Lib.parseMag; rw [if_neg hne]; exact pu_dec _ (by omega)
    have h45 : (45 : UInt8).toNat = 45 := rfl
    simp only [Lib.atoiAll, h45]
    rw [if_pos (Or.inr trivial), hp]
    simp only [not_true_eq_false, false_and, if_false, true_and, if_true]
    rw [if_neg (by omega)]
    congr 1
    omega
  · rename_i hn
    have hne := dec_ne n.toNat
    have hp : Lib.parseMag (Lib.decDigits n.toNat) = .ok n.toNat := by
      unfold Lib.parseMag; rw [if_neg hne]; exact pu_dec _ (by omega)
    have hd := dec_digits n.toNat
    cases hl : Lib.decDigits n.toNat with
    | nil => exact absurd hl hne
    | cons c r =>
      rw [hl] at hp hd
      have hc := hd c (by simp)
      simp only [Lib.atoiAll]
      rw [if_neg (by omega), hp]
      simp only
      rw [if_neg (by omega), if_neg (by omega), if_neg (by omega)]
      congr 1
      omega
/-- Digits, read. -/
theorem atoiN_dec (u : Nat) (h : u ≤ 1000000000) : atoiN (Lib.decDigits u) = u := by
  have := atoi_itoa (u : Int) (by omega) (by omega)
  rw [show Lib.itoa (u : Int) = Lib.decDigits u by unfold Lib.itoa; rw [if_neg (by omega)]; simp] at this
  unfold atoiN
  rw [this]
/-- A column's or a value's tokens. -/
def argK (a : Ag) : List Kt :=
  if a.1 ≠ [] then [(0, a.1)] else if a.2.1 = 1 then (if a.2.2.1 < 0 then [(3, [45]), (1, Lib.decDigits a.2.2.1.natAbs)] else [(1, Lib.decDigits a.2.2.1.toNat)]) else [(2, 39 :: (a.2.2.2 ++ [39]))]
/-- What argP reads. -/
def AgRead (a : Ag) : Prop := (a.1 ≠ [] ∧ a.1.length ≤ 10 ∧ a.2 = (0, 0, [])) ∨ (a.1 = [] ∧ a.2.1 = 2 ∧ a.2.2.1 = 0 ∧ rightValueB 2 0 a.2.2.2 = true) ∨ (a.1 = [] ∧ a.2.1 = 1 ∧ -1000000000 ≤ a.2.2.1 ∧ a.2.2.1 ≤ 1000000000 ∧ a.2.2.2 = [])
theorem arg_reads {a : Ag} (h : AgRead a) : Reads argP (argK a) (· = a) := by
  obtain ⟨nm, k, n, t⟩ := a
  rcases h with ⟨h1, h2, h3⟩ | ⟨h1, h2, h3, h4⟩ | ⟨h1, h2, h3, h4, h5⟩
  · dsimp only at h1 h2 h3
    injection h3 with h3 h4
    injection h4 with h4 h5
    subst h3 h4 h5
    intro ts R hk
    simp only [argK, if_pos h1] at hk
    obtain ⟨q1, q2, q3⟩ := kt_head hk
    obtain ⟨x, ts1, k1, rfl, k3⟩ := name_reads h2 ts R hk
    exact ⟨_, ts1, by unfold argP; rw [if_pos q1, k1]; rfl, rfl, k3⟩
  · dsimp only at h1 h2 h3 h4
    subst h1 h2 h3
    intro ts R hk
    simp only [argK, ne_eq, not_true_eq_false, if_false] at hk
    rw [if_neg (by decide)] at hk
    obtain ⟨q1, q2, q3⟩ := kt_head hk
    obtain ⟨x, ts1, k1, rfl, k3⟩ := quo_reads h4 ts R hk
    exact ⟨_, ts1, by unfold argP; rw [if_neg (by rw [q1]; decide), if_pos q1, k1]; rfl, rfl, k3⟩
  · dsimp only at h1 h2 h3 h4 h5
    subst h1 h2 h5
    intro ts R hk
    simp only [argK, ne_eq, not_true_eq_false, if_false, if_true] at hk
    by_cases hn : n < 0
    · rw [if_pos hn] at hk
      obtain ⟨q1, q2, q3⟩ := kt_head (show kt ts = (3, [45]) :: ((1, Lib.decDigits n.natAbs) :: R) from hk)
      have hd := atoiN_dec n.natAbs (by omega)
      obtain ⟨x, ts1, k1, rfl, k3⟩ := num_reads (most := 1000000000) (x := Lib.decDigits n.natAbs) (by rw [hd]; omega) ts.tail R q3
      refine ⟨_, ts1, by unfold argP; rw [if_neg (by rw [q1]; decide), if_neg (by rw [q1]; decide), if_pos q2, k1]; rfl, ?_, k3⟩
      show ([], (1 : Int), -atoiN (Lib.decDigits n.natAbs), []) = (([] : By), (1 : Int), n, ([] : By))
      rw [hd, show -((n.natAbs : Nat) : Int) = n by omega]
    · rw [if_neg hn] at hk
      obtain ⟨q1, q2, q3⟩ := kt_head (show kt ts = (1, Lib.decDigits n.toNat) :: R from hk)
      have hd := atoiN_dec n.toNat (by omega)
      have hne : textT ts ≠ [45] := by
        rw [q2]
        intro e
        have := dec_digits n.toNat 45 (by rw [e]; simp)
        simp at this
      obtain ⟨x, ts1, k1, rfl, k3⟩ := num_reads (most := 1000000000) (x := Lib.decDigits n.toNat) (by rw [hd]; omega) ts R hk
      refine ⟨_, ts1, by unfold argP; rw [if_neg (by rw [q1]; decide), if_neg (by rw [q1]; decide), if_neg hne, k1]; rfl, ?_, k3⟩
      show ([], (1 : Int), atoiN (Lib.decDigits n.toNat), []) = (([] : By), (1 : Int), n, ([] : By))
      rw [hd, show ((n.toNat : Nat) : Int) = n by omega]
end Go.Proofs.YtajkjhkjgibcfaaDoor

namespace Go.Proofs.YtajkjhkjgibcfaaDoor
open Go.RowKit

def colK (c : By × Int) : List Kt := [(0, c.1), (0, kindW c.2)]
def ColRead (c : By × Int) : Prop := c.1.length ≤ 10 ∧ (c.2 = 1 ∨ c.2 = 2)
theorem column_reads {c : By × Int} (h : ColRead c) : Reads columnP (colK c) (· = c) := by
  intro ts R hk
  obtain ⟨x, ts1, k1, rfl, k3⟩ := name_reads h.1 ts ((0, kindW c.2) :: R) hk
  obtain ⟨q1, q2, q3⟩ := kt_head k3
  refine ⟨c, ts1.tail, ?_, rfl, q3⟩
  unfold columnP
  rw [k1]
  show (if textT ts1 = wInt then _ else _) = _
  rw [q2]
  obtain ⟨nm, k⟩ := c
  rcases h.2 with h2 | h2
  · dsimp only at h2
    subst h2
    rfl
  · dsimp only at h2
    subst h2
    rfl
def colsK : List (By × Int) → List Kt
  | [] => []
  | c :: l => (3, [44]) :: (colK c ++ colsK l)
theorem colsK_len : ∀ l, l.length ≤ (colsK l).length
  | [] => by simp
  | c :: l => by have := colsK_len l; simp only [colsK, List.length_cons, List.length_append]; omega
theorem cols_reads : ∀ (l : List (By × Int)) (g : Nat) (acc : List (By × Int)), (∀ x ∈ l, ColRead x) → l.length ≤ g → ReadsIf (colsP g acc) (colsK l) (notText [44]) (· = acc ++ l)
  | [], 0, acc, _, _ => by
    intro ts R hk hR
    exact ⟨acc, ts, rfl, by simp, hk⟩
  | [], g + 1, acc, _, _ => by
    intro ts R hk hR
    refine ⟨acc, ts, ?_, by simp, hk⟩
    unfold colsP
    rw [if_neg (by rw [kt_text hk]; exact hR)]
  | x :: l, 0, acc, _, hg => absurd hg (by simp)
  | x :: l, g + 1, acc, hl, hg => by
    intro ts R hk hR
    obtain ⟨h1, h2, h3⟩ := kt_head (show kt ts = (3, [44]) :: (colK x ++ colsK l ++ R) from hk)
    rw [List.append_assoc] at h3
    obtain ⟨a, ts1, h4, rfl, h5⟩ := column_reads (hl x List.mem_cons_self) ts.tail _ h3
    obtain ⟨b, ts2, h6, rfl, h7⟩ := cols_reads l g (acc ++ [a]) (fun y hy => hl y (List.mem_cons_of_mem _ hy)) (by simpa using hg) ts1 R h5 hR
    refine ⟨acc ++ a :: l, ts2, ?_, rfl, h7⟩
    unfold colsP
    rw [if_pos h2, h4]
    show colsP g (acc ++ [a]) ts1 = _
    rw [h6]
    simp
def inK (a : FIn) : List Kt := [(0, wIn), (0, a.name), (3, [58])] ++ (match a.cols with | [] => [] | c :: l => colK c ++ colsK l) ++ [(3, [59])]
def InRead (a : FIn) : Prop := a.name.length ≤ 10 ∧ a.cols ≠ [] ∧ ∀ x ∈ a.cols, ColRead x
theorem input_reads {a : FIn} (h : InRead a) : Reads inputP (inK a) (fun b => b.name = a.name ∧ b.cols = a.cols) := by
  obtain ⟨at_, nm, cols⟩ := a
  obtain ⟨h1, h2, h3⟩ := h
  cases cols with
  | nil => exact absurd rfl h2
  | cons c l =>
    intro ts R hk
    obtain ⟨x1, t1, e1, -, k1⟩ := must_reads 0 wIn ts ((0, nm) :: (3, [58]) :: (colK c ++ (colsK l ++ ((3, [59]) :: R)))) (by rw [hk]; simp [inK])
    obtain ⟨x2, t2, e2, rfl, k2⟩ := name_reads h1 t1 _ k1
    obtain ⟨x3, t3, e3, -, k3⟩ := must_reads 3 [58] t2 _ k2
    obtain ⟨x4, t4, e4, rfl, k4⟩ := column_reads (h3 c List.mem_cons_self) t3 _ k3
    obtain ⟨x5, t5, e5, rfl, k5⟩ := cols_reads l t4.length [x4] (fun y hy => h3 y (List.mem_cons_of_mem _ hy)) (by rw [kt_len k4, List.length_append]; have := colsK_len l; omega) t4 _ k4 (by simp [notText])
    obtain ⟨x6, t6, e6, -, k6⟩ := must_reads 3 [59] t5 R k5
    refine ⟨⟨x1, x2, [x4] ++ l⟩, t6, ?_, ⟨rfl, rfl⟩, k6⟩
    simp only [inputP, Except.bind, e1, e2, e3, e4, e5, e6]
def outK (a : FOut) : List Kt := [(0, wOut), (0, a.name), (3, [61]), (0, a.from_), (3, [59])]
theorem publish_reads {a : FOut} (h : a.name.length ≤ 10 ∧ a.from_.length ≤ 10) : Reads publishP (outK a) (fun b => b.name = a.name ∧ b.from_ = a.from_) := by
  obtain ⟨at_, nm, fr⟩ := a
  intro ts R hk
  obtain ⟨x1, t1, e1, -, k1⟩ := must_reads 0 wOut ts ((0, nm) :: (3, [61]) :: (0, fr) :: (3, [59]) :: R) hk
  obtain ⟨x2, t2, e2, rfl, k2⟩ := name_reads h.1 t1 _ k1
  obtain ⟨x3, t3, e3, -, k3⟩ := must_reads 3 [61] t2 _ k2
  obtain ⟨x4, t4, e4, rfl, k4⟩ := name_reads h.2 t3 _ k3
  obtain ⟨x5, t5, e5, -, k5⟩ := must_reads 3 [59] t4 R k4
  refine ⟨⟨x1, x2, x4⟩, t5, ?_, ⟨rfl, rfl⟩, k5⟩
  simp only [publishP, Except.bind, e1, e2, e3, e4, e5]
theorem code_reads {c : Int} (h : c = 1 ∨ c = 2 ∨ c = 3 ∨ c = 4 ∨ c = 5 ∨ c = 6 ∨ c = 7 ∨ c = 8 ∨ c = 9) : Reads codeP [(0, verbW c)] (· = c) := by
  intro ts R hk
  obtain ⟨q1, q2, q3⟩ := kt_head hk
  refine ⟨c, ts.tail, ?_, rfl, q3⟩
  unfold codeP
  rw [q2]
  rcases h with rfl | rfl | rfl | rfl | rfl | rfl | rfl | rfl | rfl <;> rfl
/-- Two lists, one by one. -/
inductive All2 {α : Type} (E : α → α → Prop) : List α → List α → Prop
  | nil : All2 E [] []
  | cons {a b : α} {l m : List α} : E a b → All2 E l m → All2 E (a :: l) (b :: m)
/-- Parts, read one behind the other. -/
theorem parts_reads {α : Type} {x : By} {p : List Tk → PE α} {K : α → List Kt} {E : α → α → Prop} {C : α → Prop} (hp : ∀ a, C a → Reads p (K a) (E a)) (hx : ∀ a, C a → ((K a).head?.map (·.2)) = some x) : ∀ (l : List α) (g : Nat) (acc : List α), (∀ a ∈ l, C a) → l.length < g + 1 → acc.length + l.length ≤ 16 → ReadsIf (partsP x p g acc) (l.flatMap K) (notText x) (fun b => ∃ m, b = acc ++ m ∧ All2 E l m)
  | [], 0, acc, _, _, _ => by
    intro ts R hk hR
    exact ⟨acc, ts, rfl, ⟨[], by simp, .nil⟩, hk⟩
  | [], g + 1, acc, _, _, _ => by
    intro ts R hk hR
    refine ⟨acc, ts, ?_, ⟨[], by simp, .nil⟩, hk⟩
    unfold partsP
    rw [if_neg (by rw [kt_text hk]; exact hR)]
  | a :: l, 0, acc, _, hg, _ => absurd hg (by simp)
  | a :: l, g + 1, acc, hl, hg, h16 => by
    intro ts R hk hR
    rw [List.flatMap_cons, List.append_assoc] at hk
    have ha := hl a List.mem_cons_self
    have ht : textT ts = x := by
      rw [kt_text hk]
      have := hx a ha
      cases hK : K a with
      | nil => rw [hK] at this; simp at this
      | cons y z => rw [hK] at this; simpa using this
    obtain ⟨b, t1, e1, q1, k1⟩ := hp a ha ts _ hk
    simp only [List.length_cons] at hg h16
    obtain ⟨c, t2, e2, ⟨m, rfl, hm⟩, k2⟩ := parts_reads hp hx l g (acc ++ [b]) (fun y hy => hl y (List.mem_cons_of_mem _ hy)) (by omega) (by simp; omega) t1 R k1 hR
    refine ⟨acc ++ [b] ++ m, t2, ?_, ⟨b :: m, by simp, .cons q1 hm⟩, k2⟩
    unfold partsP
    rw [if_pos ht, if_neg (by omega), e1]
    exact e2
end Go.Proofs.YtajkjhkjgibcfaaDoor

namespace Go.Proofs.YtajkjhkjgibcfaaDoor
open Go.RowKit

/-- What a job's body may be, and its tokens. -/
inductive BodyRd : Int → List By → List By → By → Ag → Ag → List Kt → Prop
  | test {c : Int} {i l op : By} {r : Ag} : (c = 1 ∨ c = 9) → i.length ≤ 10 → l.length ≤ 10 → op ∈ cmpL → AgRead r → BodyRd c [i] [] op (l, 0, 0, []) r ([(0, verbW c)] ++ ([(0, i)] ++ ([(0, wWhere)] ++ ([(0, l)] ++ ([(3, op)] ++ argK r)))))
  | set {i n op : By} {l r : Ag} : i.length ≤ 10 → n.length ≤ 10 → op ∈ ariL → AgRead l → AgRead r → BodyRd 2 [i] [n] op l r ([(0, verbW 2)] ++ ([(0, i)] ++ ([(3, [58])] ++ ([(0, n)] ++ ([(3, [61])] ++ (argK l ++ ([(3, op)] ++ argK r)))))))
  | list {c : Int} {i x : By} {l : List By} : (c = 3 ∨ c = 4) → i.length ≤ 10 → x.length ≤ 10 → (∀ y ∈ l, y.length ≤ 10) → BodyRd c [i] (x :: l) [] agg0 agg0 ([(0, verbW c)] ++ ([(0, i)] ++ ([(0, wBy)] ++ ((0, x) :: namesK l))))
  | union {i n : By} : i.length ≤ 10 → n.length ≤ 10 → BodyRd 5 [i, n] [] [] agg0 agg0 ([(0, verbW 5)] ++ ([(0, i)] ++ ([(3, [44])] ++ [(0, n)])))
  | dist {i : By} : i.length ≤ 10 → BodyRd 6 [i] [] [] agg0 agg0 ([(0, verbW 6)] ++ [(0, i)])
  | join {i a j b : By} : i.length ≤ 10 → a.length ≤ 10 → j.length ≤ 10 → b.length ≤ 10 → BodyRd 7 [i, j] [a, b] [] agg0 agg0 ([(0, verbW 7)] ++ ([(0, i)] ++ ([(3, [46])] ++ ([(0, a)] ++ ([(3, [44])] ++ ([(0, j)] ++ ([(3, [46])] ++ [(0, b)])))))))
  | group {i a op b : By} : i.length ≤ 10 → a.length ≤ 10 → op ∈ [wSum, wMax] → b.length ≤ 10 → BodyRd 8 [i] [a, b] op agg0 agg0 ([(0, verbW 8)] ++ ([(0, i)] ++ ([(0, wBy)] ++ ([(0, a)] ++ ([(0, op)] ++ [(0, b)])))))
theorem body_reads {at_ : Nat} {outs : List By} {rt c : Int} {ins cols : List By} {op : By} {l r : Ag} {K : List Kt} (h : BodyRd c ins cols op l r K) : ReadsIf (bodyP at_ outs rt) K (notText [44]) (· = ⟨at_, c, outs, ins, cols, op, l, r, rt⟩) := by
  intro ts R hk hR
  cases h with
  | test hc hi hl hop hr =>
    simp only [List.append_assoc] at hk
    obtain ⟨x1, t1, e1, rfl, k1⟩ := code_reads (by rcases hc with rfl | rfl <;> decide) ts _ hk
    obtain ⟨x2, t2, e2, rfl, k2⟩ := name_reads hi t1 _ k1
    obtain ⟨x3, t3, e3, -, k3⟩ := must_reads 0 wWhere t2 _ k2
    obtain ⟨x4, t4, e4, rfl, k4⟩ := name_reads hl t3 _ k3
    obtain ⟨x5, t5, e5, rfl, k5⟩ := oneOf_reads hop t4 _ k4
    obtain ⟨x6, t6, e6, rfl, k6⟩ := arg_reads hr t5 _ k5
    refine ⟨_, t6, ?_, rfl, k6⟩
    simp only [bodyP, Except.bind, e1, e2]
    rw [if_pos hc]
    simp only [e3, e4, e5, e6]
  | set hi hn hop hl hr =>
    simp only [List.append_assoc] at hk
    obtain ⟨x1, t1, e1, rfl, k1⟩ := code_reads (by decide) ts _ hk
    obtain ⟨x2, t2, e2, rfl, k2⟩ := name_reads hi t1 _ k1
    obtain ⟨x3, t3, e3, -, k3⟩ := must_reads 3 [58] t2 _ k2
    obtain ⟨x4, t4, e4, rfl, k4⟩ := name_reads hn t3 _ k3
    obtain ⟨x5, t5, e5, -, k5⟩ := must_reads 3 [61] t4 _ k4
    obtain ⟨x6, t6, e6, rfl, k6⟩ := arg_reads hl t5 _ k5
    obtain ⟨x7, t7, e7, rfl, k7⟩ := oneOf_reads hop t6 _ k6
    obtain ⟨x8, t8, e8, rfl, k8⟩ := arg_reads hr t7 _ k7
    refine ⟨_, t8, ?_, rfl, k8⟩
    simp only [bodyP, Except.bind, e1, e2]
    rw [if_neg (by decide), if_pos (by decide)]
    simp only [e3, e4, e5, e6, e7, e8]
  | list hc hi hx hl =>
    simp only [List.append_assoc] at hk
    obtain ⟨x1, t1, e1, rfl, k1⟩ := code_reads (by rcases hc with rfl | rfl <;> decide) ts _ hk
    obtain ⟨x2, t2, e2, rfl, k2⟩ := name_reads hi t1 _ k1
    obtain ⟨x3, t3, e3, -, k3⟩ := must_reads 0 wBy t2 _ k2
    obtain ⟨x4, t4, e4, rfl, k4⟩ := names_reads hx hl t3 _ k3 hR
    refine ⟨_, t4, ?_, rfl, k4⟩
    simp only [bodyP, Except.bind, e1, e2]
    rw [if_neg (by rcases hc with rfl | rfl <;> decide), if_neg (by rcases hc with rfl | rfl <;> decide), if_pos hc]
    simp only [e3, e4]
  | union hi hn =>
    simp only [List.append_assoc] at hk
    obtain ⟨x1, t1, e1, rfl, k1⟩ := code_reads (by decide) ts _ hk
    obtain ⟨x2, t2, e2, rfl, k2⟩ := name_reads hi t1 _ k1
    obtain ⟨x3, t3, e3, -, k3⟩ := must_reads 3 [44] t2 _ k2
    obtain ⟨x4, t4, e4, rfl, k4⟩ := name_reads hn t3 _ k3
    refine ⟨_, t4, ?_, rfl, k4⟩
    simp only [bodyP, Except.bind, e1, e2]
    rw [if_neg (by decide), if_neg (by decide), if_neg (by decide), if_pos (by decide)]
    simp only [e3, e4]
  | dist hi =>
    simp only [List.append_assoc] at hk
    obtain ⟨x1, t1, e1, rfl, k1⟩ := code_reads (by decide) ts _ hk
    obtain ⟨x2, t2, e2, rfl, k2⟩ := name_reads hi t1 _ k1
    refine ⟨_, t2, ?_, rfl, k2⟩
    simp only [bodyP, Except.bind, e1, e2]
    rw [if_neg (by decide), if_neg (by decide), if_neg (by decide), if_neg (by decide), if_neg (by decide), if_neg (by decide)]
  | join hi ha hj hb =>
    simp only [List.append_assoc] at hk
    obtain ⟨x1, t1, e1, rfl, k1⟩ := code_reads (by decide) ts _ hk
    obtain ⟨x2, t2, e2, rfl, k2⟩ := name_reads hi t1 _ k1
    obtain ⟨x3, t3, e3, -, k3⟩ := must_reads 3 [46] t2 _ k2
    obtain ⟨x4, t4, e4, rfl, k4⟩ := name_reads ha t3 _ k3
    obtain ⟨x5, t5, e5, -, k5⟩ := must_reads 3 [44] t4 _ k4
    obtain ⟨x6, t6, e6, rfl, k6⟩ := name_reads hj t5 _ k5
    obtain ⟨x7, t7, e7, -, k7⟩ := must_reads 3 [46] t6 _ k6
    obtain ⟨x8, t8, e8, rfl, k8⟩ := name_reads hb t7 _ k7
    refine ⟨_, t8, ?_, rfl, k8⟩
    simp only [bodyP, Except.bind, e1, e2]
    rw [if_neg (by decide), if_neg (by decide), if_neg (by decide), if_neg (by decide), if_pos (by decide)]
    simp only [e3, e4, e5, e6, e7, e8]
  | group hi ha hop hb =>
    simp only [List.append_assoc] at hk
    obtain ⟨x1, t1, e1, rfl, k1⟩ := code_reads (by decide) ts _ hk
    obtain ⟨x2, t2, e2, rfl, k2⟩ := name_reads hi t1 _ k1
    obtain ⟨x3, t3, e3, -, k3⟩ := must_reads 0 wBy t2 _ k2
    obtain ⟨x4, t4, e4, rfl, k4⟩ := name_reads ha t3 _ k3
    obtain ⟨x5, t5, e5, rfl, k5⟩ := oneOf_reads hop t4 _ k4
    obtain ⟨x6, t6, e6, rfl, k6⟩ := name_reads hb t5 _ k5
    refine ⟨_, t6, ?_, rfl, k6⟩
    simp only [bodyP, Except.bind, e1, e2]
    rw [if_neg (by decide), if_neg (by decide), if_neg (by decide), if_neg (by decide), if_neg (by decide), if_pos (by decide)]
    simp only [e3, e4, e5, e6]
end Go.Proofs.YtajkjhkjgibcfaaDoor

namespace Go.Proofs.YtajkjhkjgibcfaaDoor
open Go.RowKit

def retryK (n : Int) : List Kt := if n = 0 then [] else [(0, wRetry), (1, Lib.decDigits n.toNat)]
theorem retry_reads {n : Int} (h0 : 0 ≤ n) (h5 : n ≤ 5) : ReadsIf retryP (retryK n) (notText wRetry) (· = n) := by
  intro ts R hk hR
  by_cases hn : n = 0
  · subst hn
    simp only [retryK, if_pos, List.nil_append] at hk
    refine ⟨0, ts, ?_, rfl, hk⟩
    unfold retryP
    rw [if_neg (by rw [kt_text hk]; exact hR)]
  · simp only [retryK, if_neg hn] at hk
    obtain ⟨q1, q2, q3⟩ := kt_head (show kt ts = (0, wRetry) :: ((1, Lib.decDigits n.toNat) :: R) from hk)
    have hd := atoiN_dec n.toNat (by omega)
    obtain ⟨x, t1, e1, rfl, k1⟩ := num_reads (most := 5) (x := Lib.decDigits n.toNat) (by rw [hd]; omega) ts.tail R q3
    refine ⟨_, t1, by unfold retryP; rw [if_pos q2, e1], ?_, k1⟩
    show atoiN _ = n
    rw [hd]
    omega
/-- A job that can be read back, and its tokens. -/
inductive JobRd : FJob → List Kt → Prop
  | mk {at_ : Nat} {c rt : Int} {x : By} {xs ins cols : List By} {op : By} {l r : Ag} {K : List Kt} : x.length ≤ 10 → (∀ y ∈ xs, y.length ≤ 10) → 0 ≤ rt → rt ≤ 5 → BodyRd c ins cols op l r K →
    JobRd ⟨at_, c, x :: xs, ins, cols, op, l, r, rt⟩ ([(0, wJob)] ++ (((0, x) :: namesK xs) ++ (retryK rt ++ ([(3, [61])] ++ (K ++ [(3, [59])])))))
theorem job_reads {j : FJob} {K : List Kt} (h : JobRd j K) : Reads jobP K (fun b => b = { j with at_ := b.at_ }) := by
  cases h with
  | @mk at_ c rt x xs ins cols op l r K hx hxs h0 h5 hb =>
    intro ts R hk
    simp only [List.append_assoc] at hk
    obtain ⟨x1, t1, e1, -, k1⟩ := must_reads 0 wJob ts _ hk
    obtain ⟨x2, t2, e2, rfl, k2⟩ := names_reads hx hxs t1 _ k1 (by
      unfold notText retryK
      split <;> simp [wRetry])
    obtain ⟨x3, t3, e3, rfl, k3⟩ := retry_reads h0 h5 t2 _ k2 (by simp [notText, wRetry])
    obtain ⟨x4, t4, e4, -, k4⟩ := must_reads 3 [61] t3 _ k3
    obtain ⟨x5, t5, e5, rfl, k5⟩ := body_reads (at_ := x1) (outs := x :: xs) (rt := x3) hb t4 _ k4 (by simp [notText])
    obtain ⟨x6, t6, e6, -, k6⟩ := must_reads 3 [59] t5 R k5
    refine ⟨⟨x1, c, x :: xs, ins, cols, op, l, r, x3⟩, t6, ?_, rfl, k6⟩
    simp only [jobP, Except.bind, e1, e2, e3, e4, e5, e6]
end Go.Proofs.YtajkjhkjgibcfaaDoor

