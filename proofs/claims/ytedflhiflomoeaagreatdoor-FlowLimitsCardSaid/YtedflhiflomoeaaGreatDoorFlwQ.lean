import Derived.Test.YtedflhiflomoeaaGreatDoorFlwA
set_option linter.unusedSimpArgs false
set_option linter.unusedVariables false
namespace Go.Proofs.YtedflhiflomoeaaGreatDoor
open Go.RowKit

/-- At most so many tokens are left. -/
def Le {α : Type} (r : PE α) (n : Nat) : Prop := ∀ a t, r = .ok (a, t) → t.length ≤ n
theorem Le.ok {α : Type} {a : α} {t : List Tk} {n : Nat} (h : t.length ≤ n) : Le (.ok (a, t) : PE α) n := by
  intro a' t' e
  simp only [Except.ok.injEq, Prod.mk.injEq] at e
  rw [← e.2]; exact h
theorem Le.err {α : Type} {e : Int × Nat} {n : Nat} : Le (.error e : PE α) n := by intro a t h; cases h
theorem Le.wrong {α : Type} {c : Int} {ts : List Tk} {n : Nat} : Le (wrongP c ts : PE α) n := Le.err
theorem Le.bind {α β : Type} {r : PE α} {K : α × List Tk → PE β} {n m : Nat} (h : Le r m) (hK : ∀ a t, t.length ≤ m → Le (K (a, t)) n) : Le (r.bind K) n := by
  cases r with
  | error e => exact Le.err
  | ok x => exact hK x.1 x.2 (h x.1 x.2 rfl)
theorem Le.map {α β : Type} {r : PE α} {f : α → β} {n : Nat} (h : Le r n) : Le (r.map fun x => (f x.1, x.2)) n := by
  cases r with
  | error e => exact Le.err
  | ok x => exact Le.ok (h x.1 x.2 rfl)
theorem Le.mono {α : Type} {r : PE α} {n m : Nat} (h : Le r n) (hm : n ≤ m) : Le r m := fun a t e => Nat.le_trans (h a t e) hm
theorem tail_le {ts : List Tk} {n : Nat} (h : ts.length ≤ n) : ts.tail.length ≤ n := by rw [List.length_tail]; omega
theorem le_must (x : By) (ts : List Tk) : Le (mustP x ts) (ts.length - 1) := by
  unfold mustP; split
  · exact Le.ok (by rw [List.length_tail]; omega)
  · exact Le.wrong
theorem le_mustn (x : By) {ts : List Tk} {n : Nat} (h : ts.length ≤ n) : Le (mustP x ts) n := (le_must x ts).mono (by omega)
theorem le_name {ts : List Tk} {n : Nat} (h : ts.length ≤ n) : Le (nameP ts) n := by
  unfold nameP; split
  · exact Le.wrong
  · split
    · exact Le.wrong
    · exact Le.ok (tail_le h)
theorem le_num (m : Int) {ts : List Tk} {n : Nat} (h : ts.length ≤ n) : Le (numP m ts) n := by
  unfold numP; split
  · exact Le.wrong
  · split
    · exact Le.wrong
    · exact Le.ok (tail_le h)
theorem le_quo {ts : List Tk} {n : Nat} (h : ts.length ≤ n) : Le (quoP ts) n := by
  unfold quoP; split
  · exact Le.wrong
  · split
    · exact Le.wrong
    · exact Le.ok (tail_le h)
theorem le_one (xs : List By) {ts : List Tk} {n : Nat} (h : ts.length ≤ n) : Le (oneOfP xs ts) n := by
  unfold oneOfP; split
  · exact Le.ok (tail_le h)
  · exact Le.wrong
theorem le_arg {ts : List Tk} {n : Nat} (h : ts.length ≤ n) : Le (argP ts) n := by
  unfold argP; split
  · exact Le.map (f := fun x => (x, 0, 0, [])) (le_name h)
  · split
    · exact Le.map (f := fun x => ([], 2, 0, x)) (le_quo h)
    · split
      · exact Le.map (f := fun x => ([], 1, -x, [])) (le_num _ (tail_le h))
      · exact Le.map (f := fun x => ([], 1, x, [])) (le_num _ h)
theorem le_more : ∀ (g : Nat) (acc : List By) (ts : List Tk) (n : Nat), ts.length ≤ n → Le (moreP g acc ts) n
  | 0, acc, ts, n, h => Le.ok h
  | g + 1, acc, ts, n, h => by
    unfold moreP; split
    · exact Le.bind (le_name (tail_le h)) (fun a t ht => le_more g _ t n ht)
    · exact Le.ok h
theorem le_names {ts : List Tk} {n : Nat} (h : ts.length ≤ n) : Le (namesP ts) n := Le.bind (le_name h) (fun a t ht => le_more _ _ t n ht)
theorem le_column {ts : List Tk} {n : Nat} (h : ts.length ≤ n) : Le (columnP ts) n := Le.bind (le_name h) (fun a t ht => by
  dsimp only
  split
  · exact Le.ok (tail_le ht)
  · split
    · exact Le.ok (tail_le ht)
    · exact Le.wrong)
theorem le_cols : ∀ (g : Nat) (acc : List (By × Int)) (ts : List Tk) (n : Nat), ts.length ≤ n → Le (colsP g acc ts) n
  | 0, acc, ts, n, h => Le.ok h
  | g + 1, acc, ts, n, h => by
    unfold colsP; split
    · exact Le.bind (le_column (tail_le h)) (fun a t ht => le_cols g _ t n ht)
    · exact Le.ok h
theorem le_input (ts : List Tk) : Le (inputP ts) (ts.length - 1) :=
  Le.bind (le_must _ ts) fun _ _ h1 => Le.bind (le_name h1) fun _ _ h2 => Le.bind (le_mustn _ h2) fun _ _ h3 => Le.bind (le_column h3) fun _ _ h4 => Le.bind (le_cols _ _ _ _ h4) fun _ _ h5 => Le.bind (le_mustn _ h5) fun _ _ h6 => Le.ok h6
theorem le_publish (ts : List Tk) : Le (publishP ts) (ts.length - 1) :=
  Le.bind (le_must _ ts) fun _ _ h1 => Le.bind (le_name h1) fun _ _ h2 => Le.bind (le_mustn _ h2) fun _ _ h3 => Le.bind (le_name h3) fun _ _ h4 => Le.bind (le_mustn _ h4) fun _ _ h5 => Le.ok h5
theorem le_code {ts : List Tk} {n : Nat} (h : ts.length ≤ n) : Le (codeP ts) n := by
  unfold codeP; split
  · exact Le.ok (tail_le h)
  · exact Le.wrong
theorem le_body (at_ : Nat) (outs : List By) (retry : Int) {ts : List Tk} {n : Nat} (h : ts.length ≤ n) : Le (bodyP at_ outs retry ts) n :=
  Le.bind (le_code h) fun _ _ h1 => Le.bind (le_name h1) fun _ _ h2 => by
    dsimp only
    split
    · exact Le.bind (le_mustn _ h2) fun _ _ h3 => Le.bind (le_name h3) fun _ _ h4 => Le.bind (le_one _ h4) fun _ _ h5 => Le.bind (le_arg h5) fun _ _ h6 => Le.ok h6
    · split
      · exact Le.bind (le_mustn _ h2) fun _ _ h3 => Le.bind (le_name h3) fun _ _ h4 => Le.bind (le_mustn _ h4) fun _ _ h5 => Le.bind (le_arg h5) fun _ _ h6 => Le.bind (le_one _ h6) fun _ _ h7 => Le.bind (le_arg h7) fun _ _ h8 => Le.ok h8
      · split
        · exact Le.bind (le_mustn _ h2) fun _ _ h3 => Le.bind (le_names h3) fun _ _ h4 => Le.ok h4
        · split
          · exact Le.bind (le_mustn _ h2) fun _ _ h3 => Le.bind (le_name h3) fun _ _ h4 => Le.ok h4
          · split
            · exact Le.bind (le_mustn _ h2) fun _ _ h3 => Le.bind (le_name h3) fun _ _ h4 => Le.bind (le_mustn _ h4) fun _ _ h5 => Le.bind (le_name h5) fun _ _ h6 => Le.bind (le_mustn _ h6) fun _ _ h7 => Le.bind (le_name h7) fun _ _ h8 => Le.ok h8
            · split
              · exact Le.bind (le_mustn _ h2) fun _ _ h3 => Le.bind (le_name h3) fun _ _ h4 => Le.bind (le_one _ h4) fun _ _ h5 => Le.bind (le_name h5) fun _ _ h6 => Le.ok h6
              · exact Le.ok h2
theorem le_retry {ts : List Tk} {n : Nat} (h : ts.length ≤ n) : Le (retryP ts) n := by
  unfold retryP; split
  · exact le_num _ (tail_le h)
  · exact Le.ok h
theorem le_job (ts : List Tk) : Le (jobP ts) (ts.length - 1) :=
  Le.bind (le_must _ ts) fun _ _ h1 => Le.bind (le_names h1) fun _ _ h2 => Le.bind (le_retry h2) fun _ _ h3 => Le.bind (le_mustn _ h3) fun _ _ h4 => Le.bind (le_body _ _ _ h4) fun _ _ h5 => Le.bind (le_mustn _ h5) fun _ _ h6 => Le.ok h6
end Go.Proofs.YtedflhiflomoeaaGreatDoor
