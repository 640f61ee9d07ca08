import Derived.Test.YtedflhiflomoeaaGreatDoorFlwH
import Derived.Test.YtedflhiflomoeaaGreatDoorFlwM
import Derived.Test.YtedflhiflomoeaaGreatDoorFlwQ
set_option linter.unusedSimpArgs false
set_option linter.unusedVariables false
namespace Go.Proofs.YtedflhiflomoeaaGreatDoor
open Go.RowKit

/-- What is left is an end of what there was. -/
def Sf {α : Type} (r : PE α) (n : List Tk) : Prop := ∀ a t, r = .ok (a, t) → t <:+ n
theorem Sf.ok {α : Type} {a : α} {t : List Tk} {n : List Tk} (h : t <:+ n) : Sf (.ok (a, t) : PE α) n := by
  intro a' t' e
  simp only [Except.ok.injEq, Prod.mk.injEq] at e
  rw [← e.2]; exact h
theorem Sf.err {α : Type} {e : Int × Nat} {n : List Tk} : Sf (.error e : PE α) n := by intro a t h; cases h
theorem Sf.wrong {α : Type} {c : Int} {ts : List Tk} {n : List Tk} : Sf (wrongP c ts : PE α) n := Sf.err
theorem Sf.bind {α β : Type} {r : PE α} {K : α × List Tk → PE β} {n m : List Tk} (h : Sf r m) (hK : ∀ a t, t <:+ m → Sf (K (a, t)) n) : Sf (r.bind K) n := by
  cases r with
  | error e => exact Sf.err
  | ok x => exact hK x.1 x.2 (h x.1 x.2 rfl)
theorem Sf.map {α β : Type} {r : PE α} {f : α → β} {n : List Tk} (h : Sf r n) : Sf (r.map fun x => (f x.1, x.2)) n := by
  cases r with
  | error e => exact Sf.err
  | ok x => exact Sf.ok (h x.1 x.2 rfl)
theorem Sf.mono {α : Type} {r : PE α} {n m : List Tk} (h : Sf r n) (hm : n <:+ m) : Sf r m := fun a t e => (h a t e).trans hm
theorem tail_sf {ts : List Tk} {n : List Tk} (h : ts <:+ n) : ts.tail <:+ n := (List.tail_suffix ts).trans h
theorem sf_must (x : By) (ts : List Tk) : Sf (mustP x ts) ts := by
  unfold mustP; split
  · exact Sf.ok (List.tail_suffix ts)
  · exact Sf.wrong
theorem sf_mustn (x : By) {ts : List Tk} {n : List Tk} (h : ts <:+ n) : Sf (mustP x ts) n := (sf_must x ts).mono h
theorem sf_name {ts : List Tk} {n : List Tk} (h : ts <:+ n) : Sf (nameP ts) n := by
  unfold nameP; split
  · exact Sf.wrong
  · split
    · exact Sf.wrong
    · exact Sf.ok (tail_sf h)
theorem sf_num (m : Int) {ts : List Tk} {n : List Tk} (h : ts <:+ n) : Sf (numP m ts) n := by
  unfold numP; split
  · exact Sf.wrong
  · split
    · exact Sf.wrong
    · exact Sf.ok (tail_sf h)
theorem sf_quo {ts : List Tk} {n : List Tk} (h : ts <:+ n) : Sf (quoP ts) n := by
  unfold quoP; split
  · exact Sf.wrong
  · split
    · exact Sf.wrong
    · exact Sf.ok (tail_sf h)
theorem sf_one (xs : List By) {ts : List Tk} {n : List Tk} (h : ts <:+ n) : Sf (oneOfP xs ts) n := by
  unfold oneOfP; split
  · exact Sf.ok (tail_sf h)
  · exact Sf.wrong
theorem sf_arg {ts : List Tk} {n : List Tk} (h : ts <:+ n) : Sf (argP ts) n := by
  unfold argP; split
  · exact Sf.map (f := fun x => (x, 0, 0, [])) (sf_name h)
  · split
    · exact Sf.map (f := fun x => ([], 2, 0, x)) (sf_quo h)
    · split
      · exact Sf.map (f := fun x => ([], 1, -x, [])) (sf_num _ (tail_sf h))
      · exact Sf.map (f := fun x => ([], 1, x, [])) (sf_num _ h)
theorem sf_more : ∀ (g : Nat) (acc : List By) (ts : List Tk) (n : List Tk), ts <:+ n → Sf (moreP g acc ts) n
  | 0, acc, ts, n, h => Sf.ok h
  | g + 1, acc, ts, n, h => by
    unfold moreP; split
    · exact Sf.bind (sf_name (tail_sf h)) (fun a t ht => sf_more g _ t n ht)
    · exact Sf.ok h
theorem sf_names {ts : List Tk} {n : List Tk} (h : ts <:+ n) : Sf (namesP ts) n := Sf.bind (sf_name h) (fun a t ht => sf_more _ _ t n ht)
theorem sf_column {ts : List Tk} {n : List Tk} (h : ts <:+ n) : Sf (columnP ts) n := Sf.bind (sf_name h) (fun a t ht => by
  dsimp only
  split
  · exact Sf.ok (tail_sf ht)
  · split
    · exact Sf.ok (tail_sf ht)
    · exact Sf.wrong)
theorem sf_cols : ∀ (g : Nat) (acc : List (By × Int)) (ts : List Tk) (n : List Tk), ts <:+ n → Sf (colsP g acc ts) n
  | 0, acc, ts, n, h => Sf.ok h
  | g + 1, acc, ts, n, h => by
    unfold colsP; split
    · exact Sf.bind (sf_column (tail_sf h)) (fun a t ht => sf_cols g _ t n ht)
    · exact Sf.ok h
theorem sf_input (ts : List Tk) : Sf (inputP ts) ts :=
  Sf.bind (sf_must _ ts) fun _ _ h1 => Sf.bind (sf_name h1) fun _ _ h2 => Sf.bind (sf_mustn _ h2) fun _ _ h3 => Sf.bind (sf_column h3) fun _ _ h4 => Sf.bind (sf_cols _ _ _ _ h4) fun _ _ h5 => Sf.bind (sf_mustn _ h5) fun _ _ h6 => Sf.ok h6
theorem sf_publish (ts : List Tk) : Sf (publishP ts) ts :=
  Sf.bind (sf_must _ ts) fun _ _ h1 => Sf.bind (sf_name h1) fun _ _ h2 => Sf.bind (sf_mustn _ h2) fun _ _ h3 => Sf.bind (sf_name h3) fun _ _ h4 => Sf.bind (sf_mustn _ h4) fun _ _ h5 => Sf.ok h5
theorem sf_code {ts : List Tk} {n : List Tk} (h : ts <:+ n) : Sf (codeP ts) n := by
  unfold codeP; split
  · exact Sf.ok (tail_sf h)
  · exact Sf.wrong
theorem sf_body (at_ : Nat) (outs : List By) (retry : Int) {ts : List Tk} {n : List Tk} (h : ts <:+ n) : Sf (bodyP at_ outs retry ts) n :=
  Sf.bind (sf_code h) fun _ _ h1 => Sf.bind (sf_name h1) fun _ _ h2 => by
    dsimp only
    split
    · exact Sf.bind (sf_mustn _ h2) fun _ _ h3 => Sf.bind (sf_name h3) fun _ _ h4 => Sf.bind (sf_one _ h4) fun _ _ h5 => Sf.bind (sf_arg h5) fun _ _ h6 => Sf.ok h6
    · split
      · exact Sf.bind (sf_mustn _ h2) fun _ _ h3 => Sf.bind (sf_name h3) fun _ _ h4 => Sf.bind (sf_mustn _ h4) fun _ _ h5 => Sf.bind (sf_arg h5) fun _ _ h6 => Sf.bind (sf_one _ h6) fun _ _ h7 => Sf.bind (sf_arg h7) fun _ _ h8 => Sf.ok h8
      · split
        · exact Sf.bind (sf_mustn _ h2) fun _ _ h3 => Sf.bind (sf_names h3) fun _ _ h4 => Sf.ok h4
        · split
          · exact Sf.bind (sf_mustn _ h2) fun _ _ h3 => Sf.bind (sf_name h3) fun _ _ h4 => Sf.ok h4
          · split
            · exact Sf.bind (sf_mustn _ h2) fun _ _ h3 => Sf.bind (sf_name h3) fun _ _ h4 => Sf.bind (sf_mustn _ h4) fun _ _ h5 => Sf.bind (sf_name h5) fun _ _ h6 => Sf.bind (sf_mustn _ h6) fun _ _ h7 => Sf.bind (sf_name h7) fun _ _ h8 => Sf.ok h8
            · split
              · exact Sf.bind (sf_mustn _ h2) fun _ _ h3 => Sf.bind (sf_name h3) fun _ _ h4 => Sf.bind (sf_one _ h4) fun _ _ h5 => Sf.bind (sf_name h5) fun _ _ h6 => Sf.ok h6
              · exact Sf.ok h2
theorem sf_retry {ts : List Tk} {n : List Tk} (h : ts <:+ n) : Sf (retryP ts) n := by
  unfold retryP; split
  · exact sf_num _ (tail_sf h)
  · exact Sf.ok h
theorem sf_job (ts : List Tk) : Sf (jobP ts) ts :=
  Sf.bind (sf_must _ ts) fun _ _ h1 => Sf.bind (sf_names h1) fun _ _ h2 => Sf.bind (sf_retry h2) fun _ _ h3 => Sf.bind (sf_mustn _ h3) fun _ _ h4 => Sf.bind (sf_body _ _ _ h4) fun _ _ h5 => Sf.bind (sf_mustn _ h5) fun _ _ h6 => Sf.ok h6

/-- The document's own reader, behind the parts: it knows of no limit there. -/
def lastR (f : Flw) (ts : List Tk) : Except (Int × Nat) Flw := if kindT ts ≠ 4 then .error (3, hereT ts) else .ok f
def flowR (ts : List Tk) : Except (Int × Nat) Flw :=
  (partsP wIn inputP ts.length [] ts).bind fun i => (partsP wJob jobP i.2.length [] i.2).bind fun j => (partsP wOut publishP j.2.length [] j.2).bind fun o => lastR ⟨i.1, j.1, o.1⟩ o.2
def refF (l : By) : Except (Int × Nat) Flw := (tokensL l).bind flowR

theorem le_must1 (x : By) {ts : List Tk} {n : Nat} (h : ts.length ≤ n) : Le (mustP x ts) (n - 1) := (le_must x ts).mono (by omega)
theorem le_name1 {ts : List Tk} {n : Nat} (h : ts.length ≤ n) : Le (nameP ts) (n - 1) := by
  intro a t e
  rw [name_tail e, List.length_tail]; omega
theorem le_column2 {ts : List Tk} {n : Nat} (h : ts.length ≤ n) : Le (columnP ts) (n - 2) := by
  intro a t e
  rw [column_len e, List.length_tail, List.length_tail]; omega
theorem le_code1 {ts : List Tk} {n : Nat} (h : ts.length ≤ n) : Le (codeP ts) (n - 1) := by
  unfold codeP; split
  · exact Le.ok (by rw [List.length_tail]; omega)
  · exact Le.wrong
theorem le_names1 {ts : List Tk} {n : Nat} (h : ts.length ≤ n) : Le (namesP ts) (n - 1) := Le.bind (le_name1 h) (fun a t ht => le_more _ _ t _ ht)
theorem le_input6 {ts : List Tk} {n : Nat} (h : ts.length ≤ n) : Le (inputP ts) (n - 6) :=
  (Le.bind (le_must1 _ h) fun _ _ h1 => Le.bind (le_name1 h1) fun _ _ h2 => Le.bind (le_must1 _ h2) fun _ _ h3 => Le.bind (le_column2 h3) fun _ _ h4 => Le.bind (le_cols _ _ _ _ h4) fun _ _ h5 => Le.bind (le_must1 _ h5) fun _ _ h6 => Le.ok (by omega))
theorem le_body2 (at_ : Nat) (outs : List By) (retry : Int) {ts : List Tk} {n : Nat} (h : ts.length ≤ n) : Le (bodyP at_ outs retry ts) (n - 2) :=
  Le.bind (le_code1 h) fun _ _ h1 => Le.bind (le_name1 h1) fun _ _ h2' => by
    have h2 := Nat.le_trans h2' (show n - 1 - 1 ≤ n - 2 by omega)
    clear h2'
    dsimp only
    split
    · exact Le.bind (le_mustn _ h2) fun _ _ h3 => Le.bind (le_name h3) fun _ _ h4 => Le.bind (le_one _ h4) fun _ _ h5 => Le.bind (le_arg h5) fun _ _ h6 => Le.ok h6
    · split
      · exact Le.bind (le_mustn _ h2) fun _ _ h3 => Le.bind (le_name h3) fun _ _ h4 => Le.bind (le_mustn _ h4) fun _ _ h5 => Le.bind (le_arg h5) fun _ _ h6 => Le.bind (le_one _ h6) fun _ _ h7 => Le.bind (le_arg h7) fun _ _ h8 => Le.ok h8
      · split
        · exact Le.bind (le_mustn _ h2) fun _ _ h3 => Le.bind (le_names h3) fun _ _ h4 => Le.ok h4
        · split
          · exact Le.bind (le_mustn _ h2) fun _ _ h3 => Le.bind (le_name h3) fun _ _ h4 => Le.ok h4
          · split
            · exact Le.bind (le_mustn _ h2) fun _ _ h3 => Le.bind (le_name h3) fun _ _ h4 => Le.bind (le_mustn _ h4) fun _ _ h5 => Le.bind (le_name h5) fun _ _ h6 => Le.bind (le_mustn _ h6) fun _ _ h7 => Le.bind (le_name h7) fun _ _ h8 => Le.ok h8
            · split
              · exact Le.bind (le_mustn _ h2) fun _ _ h3 => Le.bind (le_name h3) fun _ _ h4 => Le.bind (le_one _ h4) fun _ _ h5 => Le.bind (le_name h5) fun _ _ h6 => Le.ok h6
              · exact Le.ok h2
theorem le_job6 {ts : List Tk} {n : Nat} (h : ts.length ≤ n) : Le (jobP ts) (n - 6) :=
  Le.bind (le_must1 _ h) fun _ _ h1 => Le.bind (le_names1 h1) fun _ _ h2 => Le.bind (le_retry h2) fun _ _ h3 => Le.bind (le_must1 _ h3) fun _ _ h4 => Le.bind (le_body2 _ _ _ h4) fun _ _ h5 => Le.bind (le_must1 _ h5) fun _ _ h6 => Le.ok (by omega)
/-- What is left behind parts of one kind. -/
theorem parts_left {α : Type} {x : By} {p : List Tk → PE α} (hx : x ≠ []) (hp : ∀ ts, Le (p ts) (ts.length - 1)) (hs : ∀ ts, Sf (p ts) ts) : ∀ (g : Nat) (acc : List α) (ts : List Tk), ts.length ≤ g → ∀ l t, partsP x p g acc ts = .ok (l, t) → textT t ≠ x ∧ t <:+ ts ∧ (textT ts ≠ x → t = ts)
  | 0, acc, ts, hg, l, t, h => by
    simp only [partsP, Except.ok.injEq, Prod.mk.injEq] at h
    obtain ⟨-, rfl⟩ := h
    have : ts = [] := List.length_eq_zero_iff.mp (by omega)
    subst this
    exact ⟨fun e => hx e.symm, List.suffix_refl _, fun _ => rfl⟩
  | g + 1, acc, ts, hg, l, t, h => by
    unfold partsP at h
    by_cases hc : textT ts = x
    · rw [if_pos hc] at h
      split at h
      · cases h
      · cases hr : p ts with
        | error e => rw [hr] at h; cases h
        | ok y =>
          rw [hr] at h
          change partsP x p g (acc ++ [y.1]) y.2 = _ at h
          have hl := hp ts y.1 y.2 hr
          have hne : ts ≠ [] := fun e => by subst e; exact hx hc.symm
          have hpos : 0 < ts.length := List.length_pos_iff.mpr hne
          obtain ⟨h1, h2, -⟩ := parts_left hx hp hs g _ _ (by omega) l t h
          exact ⟨h1, h2.trans (hs ts y.1 y.2 hr), fun hn => absurd hc hn⟩
    · rw [if_neg hc] at h
      simp only [Except.ok.injEq, Prod.mk.injEq] at h
      obtain ⟨-, rfl⟩ := h
      exact ⟨hc, List.suffix_refl _, fun _ => rfl⟩
/-- Each part takes six tokens. -/
theorem parts_six {α : Type} {x : By} {p : List Tk → PE α} (hp : ∀ ts, Le (p ts) (ts.length - 6)) : ∀ (g : Nat) (acc : List α) (ts : List Tk) (n : Nat), ts.length ≤ n → ∀ l t, partsP x p g acc ts = .ok (l, t) → acc.length ≤ l.length ∧ t.length ≤ n - 6 * (l.length - acc.length)
  | 0, acc, ts, n, hn, l, t, h => by
    simp only [partsP, Except.ok.injEq, Prod.mk.injEq] at h
    obtain ⟨rfl, rfl⟩ := h
    exact ⟨Nat.le_refl _, by omega⟩
  | g + 1, acc, ts, n, hn, l, t, h => by
    unfold partsP at h
    split at h
    · split at h
      · cases h
      · cases hr : p ts with
        | error e => rw [hr] at h; cases h
        | ok y =>
          rw [hr] at h
          change partsP x p g (acc ++ [y.1]) y.2 = _ at h
          have hl := hp ts y.1 y.2 hr
          obtain ⟨h1, h2⟩ := parts_six hp g _ _ (n - 6) (by omega) l t h
          simp only [List.length_append, List.length_cons, List.length_nil] at h1 h2
          exact ⟨by omega, by omega⟩
    · simp only [Except.ok.injEq, Prod.mk.injEq] at h
      obtain ⟨rfl, rfl⟩ := h
      exact ⟨Nat.le_refl _, by omega⟩
theorem text_mem {ts : List Tk} {x : By} (hx : x ≠ []) (h : textT ts = x) : ∃ t ∈ ts, t.2.1 = x := by
  cases ts with
  | nil => exact absurd h.symm hx
  | cons t r => exact ⟨t, by simp, h⟩
theorem must_mem {x : By} {ts t : List Tk} {a : Nat} (hx : x ≠ []) (h : mustP x ts = .ok (a, t)) : ∃ t ∈ ts, t.2.1 = x := by
  unfold mustP at h
  split at h
  · rename_i hc; exact text_mem hx hc
  · cases h
theorem input_colon {ts t : List Tk} {a : FIn} (h : inputP ts = .ok (a, t)) : ∃ t ∈ ts, t.2.1 = [58] := by
  unfold inputP at h
  cases h1 : mustP wIn ts with
  | error e => rw [h1] at h; cases h
  | ok a1 =>
    rw [h1] at h
    change (nameP a1.2).bind _ = _ at h
    cases h2 : nameP a1.2 with
    | error e => rw [h2] at h; cases h
    | ok a2 =>
      rw [h2] at h
      change (mustP [58] a2.2).bind _ = _ at h
      cases h3 : mustP [58] a2.2 with
      | error e => rw [h3] at h; cases h
      | ok a3 =>
        obtain ⟨t, ht, he⟩ := must_mem (by simp) h3
        have s1 := sf_must wIn ts a1.1 a1.2 h1
        have s2 := sf_name (List.suffix_refl a1.2) a2.1 a2.2 h2
        exact ⟨t, (s2.trans s1).subset ht, he⟩
theorem parts_first {α : Type} {x : By} {p : List Tk → PE α} (g : Nat) (ts : List Tk) (l : List α) (t : List Tk) (h : partsP x p g [] ts = .ok (l, t)) (hl : l ≠ []) : ∃ a t, p ts = .ok (a, t) := by
  cases g with
  | zero =>
    simp only [partsP, Except.ok.injEq, Prod.mk.injEq] at h
    exact absurd h.1.symm hl
  | succ g =>
    unfold partsP at h
    split at h
    · split at h
      · cases h
      · cases hr : p ts with
        | error e => rw [hr] at h; cases h
        | ok y => exact ⟨y.1, y.2, rfl⟩
    · simp only [Except.ok.injEq, Prod.mk.injEq] at h
      exact absurd h.1.symm hl
def NoTok (x : By) (ts : List Tk) : Prop := ∀ t ∈ ts, t.2.1 ≠ x
theorem NoTok.text {x : By} {ts t : List Tk} (h : NoTok x ts) (hx : x ≠ []) (hs : t <:+ ts) : textT t ≠ x := fun e => by
  obtain ⟨u, hu, he⟩ := text_mem hx e
  exact h u (hs.subset hu) he
theorem flow_agree {ts : List Tk} (hA : NoTok wIn ts ∨ NoTok [58] ts ∨ (NoTok wJob ts ∧ NoTok wOut ts) ∨ ts.length ≤ 96) (hB : NoTok wJob ts ∨ NoTok wOut ts ∨ ts.length ≤ 96) : flowP ts = flowR ts := by
  unfold flowP flowR
  cases h1 : partsP wIn inputP ts.length [] ts with
  | error e => rfl
  | ok i =>
    obtain ⟨I, t1⟩ := i
    show (partsP wJob jobP t1.length [] t1).bind _ = (partsP wJob jobP t1.length [] t1).bind _
    cases h2 : partsP wJob jobP t1.length [] t1 with
    | error e => rfl
    | ok j =>
      obtain ⟨J, t2⟩ := j
      show (partsP wOut publishP t2.length [] t2).bind _ = (partsP wOut publishP t2.length [] t2).bind _
      cases h3 : partsP wOut publishP t2.length [] t2 with
      | error e => rfl
      | ok o =>
        obtain ⟨O, t3⟩ := o
        show lastP ⟨I, J, O⟩ t3 = lastR ⟨I, J, O⟩ t3
        obtain ⟨n1, s1, e1⟩ := parts_left (by decide) le_input sf_input _ _ _ (Nat.le_refl _) _ _ h1
        obtain ⟨n2, s2, e2⟩ := parts_left (by decide) le_job sf_job _ _ _ (Nat.le_refl _) _ _ h2
        obtain ⟨n3, s3, e3⟩ := parts_left (by decide) le_publish sf_publish _ _ _ (Nat.le_refl _) _ _ h3
        obtain ⟨-, x1⟩ := parts_six (fun ts => le_input6 (Nat.le_refl _)) _ _ _ _ (Nat.le_refl _) _ _ h1
        obtain ⟨-, x2⟩ := parts_six (fun ts => le_job6 (Nat.le_refl _)) _ _ _ _ (Nat.le_refl _) _ _ h2
        have l1 := s1.length_le
        have l2 := s2.length_le
        have l3 := s3.length_le
        have c1 : ¬ (textT t3 = wIn ∧ I.length = 16) := by
          rintro ⟨ht, hi⟩
          have hz : t3 ≠ [] := fun e => by subst e; cases ht
          have hz' : 0 < t3.length := List.length_pos_iff.mpr hz
          rcases hA with h | h | ⟨hj, ho⟩ | h
          · exact h.text (by decide) (s3.trans (s2.trans s1)) ht
          · obtain ⟨a, t, hp⟩ := parts_first _ _ _ _ h1 (fun e => by rw [e] at hi; cases hi)
            obtain ⟨u, hu, he⟩ := input_colon hp
            exact h u hu he
          · have q2 := e2 (hj.text (by decide) s1)
            have q3 := e3 (by rw [q2]; exact ho.text (by decide) s1)
            rw [q3, q2] at ht
            exact n1 ht
          · rw [hi] at x1
            simp only [List.length_nil] at x1
            omega
        have c2 : ¬ (textT t3 = wJob ∧ J.length = 16) := by
          rintro ⟨ht, hi⟩
          have hz : t3 ≠ [] := fun e => by subst e; cases ht
          have hz' : 0 < t3.length := List.length_pos_iff.mpr hz
          rcases hB with h | h | h
          · exact h.text (by decide) (s3.trans (s2.trans s1)) ht
          · have q3 := e3 (h.text (by decide) (s2.trans s1))
            rw [q3] at ht
            exact n2 ht
          · rw [hi] at x2
            simp only [List.length_nil] at x2
            omega
        unfold lastP lastR
        rw [if_neg c1, if_neg c2]
/-- A token is of a text's bytes; and there are no more of them than bytes. -/
theorem toks_bytes : ∀ (g : Nat) (l : By) (p n : Nat) (ts : List Tk), toksL g l p n = .ok ts → (∀ t ∈ ts, ∀ b ∈ t.2.1, b ∈ l) ∧ ts.length ≤ l.length
  | 0, l, p, n, ts, h => by
    simp only [toksL, Except.ok.injEq] at h
    subst h
    exact ⟨fun t ht => (by cases ht), Nat.zero_le _⟩
  | g + 1, l, p, n, ts, h => by
    unfold toksL at h
    split at h
    · simp only [Except.ok.injEq] at h
      subst h
      exact ⟨fun t ht => (by cases ht), Nat.zero_le _⟩
    · split at h
      · cases h
      · rename_i k len hf
        split at h
        · cases h
        · split at h
          · cases h
          · rename_i ts' hr
            simp only [Except.ok.injEq] at h
            subst h
            obtain ⟨i1, i2⟩ := toks_bytes g _ _ _ _ hr
            have hlen := first_len hf
            refine ⟨fun t ht b hb => ?_, ?_⟩
            · simp only [List.mem_cons] at ht
              rcases ht with rfl | ht
              · exact List.mem_of_mem_drop (List.mem_of_mem_take hb)
              · exact List.mem_of_mem_drop (List.mem_of_mem_drop (i1 t ht b hb))
            · simp only [List.length_cons, List.length_drop] at i2 hlen ⊢
              omega
theorem tokens_bytes {l : By} {ts : List Tk} (h : tokensL l = .ok ts) : (∀ t ∈ ts, ∀ b ∈ t.2.1, b ∈ l) ∧ ts.length ≤ l.length + 1 := by
  unfold tokensL at h
  split at h
  · cases h
  · rename_i ts' hr
    simp only [Except.ok.injEq] at h
    subst h
    obtain ⟨i1, i2⟩ := toks_bytes _ _ _ _ _ hr
    refine ⟨fun t ht b hb => ?_, by simp; omega⟩
    simp only [List.mem_append, List.mem_cons, List.not_mem_nil, or_false] at ht
    rcases ht with ht | rfl
    · exact i1 t ht b hb
    · cases hb
theorem NoTok.of {l : By} {ts : List Tk} (h : tokensL l = .ok ts) {x : By} {b : UInt8} (hb : b ∈ x) (hn : b ∉ l) : NoTok x ts := fun t ht e => hn ((tokens_bytes h).1 t ht b (by rw [e]; exact hb))
/-- Where both readers agree: a short text; or one that has no IN and no OUT; or no JOB and no OUT; or no IN and no JOB. -/
theorem agree_short {l : By} (h : l.length ≤ 95) : parseF l = refF l := by
  unfold parseF refF
  cases ht : tokensL l with
  | error e => rfl
  | ok ts =>
    have hl := (tokens_bytes ht).2
    exact flow_agree (Or.inr (Or.inr (Or.inr (by omega)))) (Or.inr (Or.inr (by omega)))
theorem agree_in {l : By} (h : (111 : UInt8) ∉ l) : parseF l = refF l := by
  unfold parseF refF
  cases ht : tokensL l with
  | error e => rfl
  | ok ts => exact flow_agree (Or.inr (Or.inr (Or.inl ⟨NoTok.of ht (b := 111) (by decide) h, NoTok.of ht (b := 111) (by decide) h⟩))) (Or.inl (NoTok.of ht (b := 111) (by decide) h))
theorem agree_job {l : By} (h : (117 : UInt8) ∉ l) (h2 : (58 : UInt8) ∉ l ∨ (105 : UInt8) ∉ l) : parseF l = refF l := by
  unfold parseF refF
  cases ht : tokensL l with
  | error e => rfl
  | ok ts =>
    refine flow_agree ?_ (Or.inr (Or.inl (NoTok.of ht (b := 117) (by decide) h)))
    rcases h2 with h2 | h2
    · exact Or.inr (Or.inl (NoTok.of ht (b := 58) (by decide) h2))
    · exact Or.inl (NoTok.of ht (b := 105) (by decide) h2)
theorem agree_out {l : By} (h : (105 : UInt8) ∉ l) (h2 : (106 : UInt8) ∉ l) : parseF l = refF l := by
  unfold parseF refF
  cases ht : tokensL l with
  | error e => rfl
  | ok ts => exact flow_agree (Or.inl (NoTok.of ht (b := 105) (by decide) h)) (Or.inl (NoTok.of ht (b := 106) (by decide) h2))
end Go.Proofs.YtedflhiflomoeaaGreatDoor
