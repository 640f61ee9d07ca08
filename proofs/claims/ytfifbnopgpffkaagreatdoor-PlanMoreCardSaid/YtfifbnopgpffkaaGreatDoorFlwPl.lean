import Derived.Test.YtfifbnopgpffkaaGreatDoorFlwP
import Derived.Lib.ItoaLen
import Derived.Shelf.SlSortCmp.QuietGrown
set_option linter.unusedSimpArgs false
set_option linter.unusedVariables false
namespace Go.Proofs.YtfifbnopgpffkaaGreatDoor.Fw
open Go.RowKit

/-- Texts that can be read. -/
def StrsR (w : World) (v : Value) (xs : List By) : Prop := (v = .slice none 0 0 ∧ xs = []) ∨ ∃ b o c, v = .slice (some ⟨b, o, none⟩) xs.length c ∧ xs.length ≤ c ∧ b < w.heap.size ∧ ∀ (j : Nat) (h : j < xs.length), w.cell? ⟨b, o + j, none⟩ = some (.string (ba xs[j]))
theorem StrsR.below {w w' : World} {v : Value} {xs : List By} (h : StrsR w v xs) (hb : Below w.heap.size w w') : StrsR w' v xs := by
  rcases h with h | ⟨b, o, c, hv, hc, hl, hx⟩
  · exact Or.inl h
  · exact Or.inr ⟨b, o, c, hv, hc, Nat.lt_of_lt_of_le hl hb.size, fun j hj => (hb.cell (p := ⟨b, o + j, none⟩) hl).trans (hx j hj)⟩
theorem StrsR.of {w : World} {B : Nat} {v : Value} {xs : List By} (h : encL B xs v w) : StrsR w v xs := by
  have h0 : w.ownsRow B 9 1 v xs.length (strV xs) := h
  obtain ⟨-, ⟨hv, hn0⟩ | ⟨g, cap, cur, hve, hgB, -, hcap, hm, -, -⟩⟩ := (show w.ownsRow B 9 1 v xs.length (strV xs) from h)
  · exact Or.inl ⟨by rw [hv], List.eq_nil_of_length_eq_zero hn0⟩
  · subst hve
    refine Or.inr ⟨g, 0, cap, rfl, hcap, (h0.lt g rfl).2, fun j hj => ?_⟩
    rw [Nat.zero_add, h0.cellAt j (by omega)]
    simp [strV, hj]
/-- What may be written: a name, or a value of a right size. -/
def AgOK (a : Ag) : Prop := a.1.length ≤ 1000 ∧ a.2.2.2.length ≤ 1000 ∧ -9223372036854775808 ≤ a.2.2.1 ∧ a.2.2.1 ≤ 9223372036854775807
/-- Columns that can be read. -/
def ColsR (w : World) (v : Value) (xs : List (By × Int)) : Prop := (v = .slice none 0 0 ∧ xs = []) ∨ ∃ b o c, v = .slice (some ⟨b, o, none⟩) xs.length c ∧ xs.length ≤ c ∧ b < w.heap.size ∧ ∀ (j : Nat) (h : j < xs.length), w.cell? ⟨b, o + j * 2, none⟩ = some (.string (ba xs[j].1)) ∧ w.cell? ⟨b, o + j * 2 + 1, none⟩ = some (.int .i64 xs[j].2)
theorem ColsR.below {w w' : World} {v : Value} {xs : List (By × Int)} (h : ColsR w v xs) (hb : Below w.heap.size w w') : ColsR w' v xs := by
  rcases h with h | ⟨b, o, c, hv, hc, hl, hx⟩
  · exact Or.inl h
  · exact Or.inr ⟨b, o, c, hv, hc, Nat.lt_of_lt_of_le hl hb.size, fun j hj => ⟨(hb.cell (p := ⟨b, o + j * 2, none⟩) hl).trans (hx j hj).1, (hb.cell (p := ⟨b, o + j * 2 + 1, none⟩) hl).trans (hx j hj).2⟩⟩
theorem colV_at : ∀ (l : List (By × Int)) (j : Nat) (h : j < l.length), (colV l)[j * 2]? = some (.string (ba l[j].1)) ∧ (colV l)[j * 2 + 1]? = some (.int .i64 l[j].2)
  | [], j, h => absurd h (by simp)
  | a :: r, 0, h => ⟨rfl, rfl⟩
  | a :: r, j + 1, h => by
    have ih := colV_at r j (by simpa using h)
    have e : colV (a :: r) = .string (ba a.1) :: .int .i64 a.2 :: colV r := rfl
    rw [e, show (j + 1) * 2 = j * 2 + 1 + 1 by omega, show j * 2 + 1 + 1 + 1 = (j * 2 + 1) + 1 + 1 by omega]
    simpa using ih
theorem ColsR.of {w : World} {B : Nat} {v : Value} {xs : List (By × Int)} (h : encCs B xs v w) : ColsR w v xs := by
  have h0 : w.ownsRow B 48 2 v xs.length (colV xs) := h
  obtain ⟨-, ⟨hv, hn0⟩ | ⟨g, cap, cur, hve, hgB, -, hcap, hm, -, -⟩⟩ := (show w.ownsRow B 48 2 v xs.length (colV xs) from h)
  · exact Or.inl ⟨by rw [hv], List.eq_nil_of_length_eq_zero hn0⟩
  · subst hve
    refine Or.inr ⟨g, 0, cap, rfl, hcap, (h0.lt g rfl).2, fun j hj => ?_⟩
    have hc := colV_at xs j hj
    exact ⟨by rw [Nat.zero_add, h0.cellAt _ (by omega), hc.1], by rw [Nat.zero_add, h0.cellAt _ (by omega), hc.2]⟩
def ColOK (c : By × Int) : Prop := c.1.length ≤ 900 ∧ (c.2 = 1 ∨ c.2 = 2)
/-- What a job that was read looks like. -/
def JobFm (j : FJob) : Prop := (j.code = 2 → ∃ n, j.cols = [n] ∧ j.op ∈ ariL) ∧ (j.code = 7 → ∃ a b, j.cols = [a, b]) ∧ (j.code = 8 → ∃ a b, j.cols = [a, b] ∧ (j.op = wSum ∨ j.op = wMax)) ∧ ((j.code = 5 ∨ j.code = 7) → ∃ a b, j.ins = [a, b]) ∧ (j.code ≠ 5 → j.code ≠ 7 → ∃ a, j.ins = [a])
/-- A job that may be written. -/
structure JobOK (j : FJob) : Prop where
  code : j.code = 1 ∨ j.code = 2 ∨ j.code = 3 ∨ j.code = 4 ∨ j.code = 5 ∨ j.code = 6 ∨ j.code = 7 ∨ j.code = 8 ∨ j.code = 9
  il : j.ins.length ≤ 1000
  cl : j.cols.length ≤ 1000
  ol : j.outs.length ≤ 1000
  is : ∀ x ∈ j.ins, x.length ≤ 1000
  cs : ∀ x ∈ j.cols, x.length ≤ 1000
  os : ∀ x ∈ j.outs, x.length ≤ 1000
  l : AgOK j.left
  r : AgOK j.right
  op : j.op.length ≤ 1000
  rt : 0 ≤ j.retry ∧ j.retry ≤ 1000
  fm : JobFm j
/-- Tokens whose numbers bear no sign, not too many. -/
def NM (ts : List Tk) : Prop := (∀ t ∈ ts, t.1 = 1 → (t.2.1.head?.map (·.toNat)) ≠ some 45) ∧ ts.length ≤ 900
theorem NM.tail {ts : List Tk} (h : NM ts) : NM ts.tail := ⟨fun t ht => h.1 t (List.mem_of_mem_tail ht), by have := h.2; simp; omega⟩
theorem bnd_ok {α β ε : Type} {p : Except ε α} {f : α → Except ε β} {r : β} (h : p.bind f = .ok r) : ∃ a, p = .ok a ∧ f a = .ok r := by
  cases p with
  | error e => cases h
  | ok a => exact ⟨a, rfl, h⟩
theorem map_ok {α β ε : Type} {p : Except ε α} {f : α → β} {r : β} (h : p.map f = .ok r) : ∃ a, p = .ok a ∧ f a = r := by
  cases p with
  | error e => cases h
  | ok a => exact ⟨a, rfl, by injection h⟩
theorem name_ok {ts : List Tk} {a : By × List Tk} (h : nameP ts = .ok a) (hn : NM ts) : a.1.length ≤ 10 ∧ NM a.2 := by
  unfold nameP at h
  split at h
  · cases h
  · split at h
    · cases h
    · injection h with h
      subst h
      exact ⟨by dsimp only; omega, hn.tail⟩
theorem must_ok {x : By} {ts : List Tk} {a : Nat × List Tk} (h : mustP x ts = .ok a) (hn : NM ts) : NM a.2 := by
  unfold mustP at h
  split at h
  · injection h with h
    subst h
    exact hn.tail
  · cases h
theorem oneOf_ok {xs : List By} {ts : List Tk} {a : By × List Tk} (h : oneOfP xs ts = .ok a) (hn : NM ts) : a.1 ∈ xs ∧ NM a.2 := by
  unfold oneOfP at h
  split at h
  · rename_i hm
    injection h with h
    subst h
    exact ⟨hm, hn.tail⟩
  · cases h
theorem num_ok {most : Int} {ts : List Tk} {a : Int × List Tk} (h : numP most ts = .ok a) (hn : NM ts) : 0 ≤ a.1 ∧ a.1 ≤ most ∧ NM a.2 := by
  unfold numP at h
  split at h
  · cases h
  · rename_i hk
    split at h
    · cases h
    · injection h with h
      subst h
      refine ⟨atoi_pos ?_, by omega, hn.tail⟩
      cases ts with
      | nil => simp [textT]
      | cons t r => exact hn.1 t (by simp) (by simpa [kindT] using hk)
theorem quo_ok {ts : List Tk} {a : By × List Tk} (h : quoP ts = .ok a) (hn : NM ts) : a.1.length ≤ 1000 ∧ NM a.2 := by
  unfold quoP at h
  split at h
  · cases h
  · split at h
    · cases h
    · rename_i hr
      injection h with h
      subst h
      refine ⟨?_, hn.tail⟩
      have := right_small (show rightValueB 2 0 (innerL (textT ts)) = true by simpa using hr)
      dsimp only
      omega
theorem arg_ok {ts : List Tk} {a : Ag × List Tk} (h : argP ts = .ok a) (hn : NM ts) : AgOK a.1 ∧ NM a.2 := by
  unfold argP at h
  split at h
  · obtain ⟨x, hx, rfl⟩ := map_ok h
    have := name_ok hx hn
    exact ⟨⟨by dsimp only; omega, by simp, by dsimp only; omega, by dsimp only; omega⟩, this.2⟩
  · split at h
    · obtain ⟨x, hx, rfl⟩ := map_ok h
      have := quo_ok hx hn
      exact ⟨⟨by simp, this.1, by dsimp only; omega, by dsimp only; omega⟩, this.2⟩
    · split at h
      · obtain ⟨x, hx, rfl⟩ := map_ok h
        have := num_ok hx hn.tail
        exact ⟨⟨by simp, by simp, by dsimp only; omega, by dsimp only; omega⟩, this.2.2⟩
      · obtain ⟨x, hx, rfl⟩ := map_ok h
        have := num_ok hx hn
        exact ⟨⟨by simp, by simp, by dsimp only; omega, by dsimp only; omega⟩, this.2.2⟩
theorem more_ok : ∀ (g : Nat) (acc : List By) (ts : List Tk) (a : List By × List Tk), moreP g acc ts = .ok a → NM ts → (∀ x ∈ acc, x.length ≤ 10) → (∀ x ∈ a.1, x.length ≤ 10) ∧ a.1.length ≤ acc.length + g ∧ NM a.2
  | 0, acc, ts, a, h, hn, ha => by
    unfold moreP at h
    injection h with h
    subst h
    exact ⟨ha, by dsimp only; omega, hn⟩
  | g + 1, acc, ts, a, h, hn, ha => by
    unfold moreP at h
    split at h
    · obtain ⟨x, hx, h⟩ := bnd_ok h
      have h1 := name_ok hx hn.tail
      have h2 := more_ok g _ _ a h h1.2 (by
        intro y hy
        rcases List.mem_append.1 hy with hy | hy
        · exact ha y hy
        · rw [List.mem_singleton.1 hy]; exact h1.1)
      refine ⟨h2.1, ?_, h2.2.2⟩
      have := h2.2.1
      simp at this
      omega
    · injection h with h
      subst h
      exact ⟨ha, by dsimp only; omega, hn⟩
theorem names_ok {ts : List Tk} {a : List By × List Tk} (h : namesP ts = .ok a) (hn : NM ts) : (∀ x ∈ a.1, x.length ≤ 10) ∧ a.1.length ≤ 1000 ∧ NM a.2 := by
  obtain ⟨x, hx, h⟩ := bnd_ok h
  have h1 := name_ok hx hn
  have h2 := more_ok _ _ _ a h h1.2 (by intro y hy; rw [List.mem_singleton.1 hy]; exact h1.1)
  refine ⟨h2.1, ?_, h2.2.2⟩
  have := h2.2.1
  have := h1.2.2
  simp at *
  omega
theorem column_ok {ts : List Tk} {a : (By × Int) × List Tk} (h : columnP ts = .ok a) (hn : NM ts) : (a.1.1.length ≤ 10 ∧ (a.1.2 = 1 ∨ a.1.2 = 2)) ∧ NM a.2 := by
  obtain ⟨x, hx, h⟩ := bnd_ok h
  have h1 := name_ok hx hn
  split at h
  · injection h with h
    subst h
    exact ⟨⟨h1.1, Or.inl rfl⟩, h1.2.tail⟩
  · split at h
    · injection h with h
      subst h
      exact ⟨⟨h1.1, Or.inr rfl⟩, h1.2.tail⟩
    · cases h
theorem retry_ok {ts : List Tk} {a : Int × List Tk} (h : retryP ts = .ok a) (hn : NM ts) : 0 ≤ a.1 ∧ a.1 ≤ 5 ∧ NM a.2 := by
  unfold retryP at h
  split at h
  · exact num_ok h hn.tail
  · injection h with h
    subst h
    exact ⟨by dsimp only; omega, by dsimp only; omega, hn⟩
def InOK (a : FIn) : Prop := a.name.length ≤ 10 ∧ a.cols.length ≤ 1000 ∧ ∀ x ∈ a.cols, ColOK x
def OutOK (a : FOut) : Prop := a.name.length ≤ 10 ∧ a.from_.length ≤ 10
theorem cols_ok : ∀ (g : Nat) (acc : List (By × Int)) (ts : List Tk) (a : List (By × Int) × List Tk), colsP g acc ts = .ok a → NM ts → (∀ x ∈ acc, ColOK x) → (∀ x ∈ a.1, ColOK x) ∧ a.1.length ≤ acc.length + g ∧ NM a.2
  | 0, acc, ts, a, h, hn, ha => by
    unfold colsP at h
    injection h with h
    subst h
    exact ⟨ha, by dsimp only; omega, hn⟩
  | g + 1, acc, ts, a, h, hn, ha => by
    unfold colsP at h
    split at h
    · obtain ⟨x, hx, h⟩ := bnd_ok h
      have h1 := column_ok hx hn.tail
      have h2 := cols_ok g _ _ a h h1.2 (by
        intro y hy
        rcases List.mem_append.1 hy with hy | hy
        · exact ha y hy
        · rw [List.mem_singleton.1 hy]; exact ⟨by have := h1.1.1; omega, h1.1.2⟩)
      refine ⟨h2.1, ?_, h2.2.2⟩
      have := h2.2.1
      simp at this
      omega
    · injection h with h
      subst h
      exact ⟨ha, by dsimp only; omega, hn⟩
theorem input_ok {ts : List Tk} {a : FIn × List Tk} (h : inputP ts = .ok a) (hn : NM ts) : InOK a.1 ∧ NM a.2 := by
  obtain ⟨x1, h1, h⟩ := bnd_ok h
  have k1 := must_ok h1 hn
  obtain ⟨x2, h2, h⟩ := bnd_ok h
  have k2 := name_ok h2 k1
  obtain ⟨x3, h3, h⟩ := bnd_ok h
  have k3 := must_ok h3 k2.2
  obtain ⟨x4, h4, h⟩ := bnd_ok h
  have k4 := column_ok h4 k3
  obtain ⟨x5, h5, h⟩ := bnd_ok h
  have k5 := cols_ok _ _ _ x5 h5 k4.2 (by intro y hy; rw [List.mem_singleton.1 hy]; exact ⟨by have := k4.1.1; omega, k4.1.2⟩)
  obtain ⟨x6, h6, h⟩ := bnd_ok h
  have k6 := must_ok h6 k5.2.2
  injection h with h
  subst h
  refine ⟨⟨k2.1, ?_, k5.1⟩, k6⟩
  have := k5.2.1
  have := k4.2.2
  simp at *
  omega
theorem code_ok {ts : List Tk} {a : Int × List Tk} (h : codeP ts = .ok a) (hn : NM ts) : (a.1 = 1 ∨ a.1 = 2 ∨ a.1 = 3 ∨ a.1 = 4 ∨ a.1 = 5 ∨ a.1 = 6 ∨ a.1 = 7 ∨ a.1 = 8 ∨ a.1 = 9) ∧ NM a.2 := by
  refine ⟨code_range (ts' := a.2) (by rw [h]), ?_⟩
  unfold codeP at h
  split at h
  · injection h with h
    subst h
    exact hn.tail
  · cases h
theorem op_len {xs : List By} {x : By} (hx : ∀ y ∈ xs, y.length ≤ 1000) (h : x ∈ xs) : x.length ≤ 1000 := hx x h
theorem agg0_ok : AgOK agg0 := by unfold AgOK agg0; decide
theorem one_len {a : By} (h : a.length ≤ 10) : ∀ x ∈ [a], x.length ≤ 1000 := by intro x hx; rw [List.mem_singleton.1 hx]; omega
theorem two_len {a b : By} (h : a.length ≤ 10) (h' : b.length ≤ 10) : ∀ x ∈ [a, b], x.length ≤ 1000 := by intro x hx; simp at hx; rcases hx with rfl | rfl <;> omega
theorem nil_len : ∀ x ∈ ([] : List By), x.length ≤ 1000 := by simp
theorem name_ag {a : By} (h : a.length ≤ 10) : AgOK (a, 0, 0, []) := ⟨by dsimp only; omega, by simp, by dsimp only; omega, by dsimp only; omega⟩
theorem body_ok {at_ : Nat} {outs : List By} {retry : Int} {ts : List Tk} {a : FJob × List Tk} (h : bodyP at_ outs retry ts = .ok a) (hn : NM ts) (ho : ∀ x ∈ outs, x.length ≤ 1000) (hol : outs.length ≤ 1000) (hr : 0 ≤ retry ∧ retry ≤ 1000) : JobOK a.1 ∧ NM a.2 := by
  obtain ⟨c, h1, h⟩ := bnd_ok h
  have k1 := code_ok h1 hn
  obtain ⟨i, h2, h⟩ := bnd_ok h
  have k2 := name_ok h2 k1.2
  split at h
  · obtain ⟨x3, h3, h⟩ := bnd_ok h
    have k3 := must_ok h3 k2.2
    obtain ⟨x4, h4, h⟩ := bnd_ok h
    have k4 := name_ok h4 k3
    obtain ⟨x5, h5, h⟩ := bnd_ok h
    have k5 := oneOf_ok h5 k4.2
    obtain ⟨x6, h6, h⟩ := bnd_ok h
    have k6 := arg_ok h6 k5.2
    injection h with h
    subst h
    exact ⟨⟨k1.1, by simp, by simp, hol, one_len k2.1, nil_len, ho, name_ag k4.1, k6.1, op_len (by decide) k5.1, hr, by refine ⟨fun q => ?_, fun q => ?_, fun q => ?_, fun q => ?_, fun q q2 => ?_⟩ <;> first | (exfalso; dsimp only at *; omega) | exact ⟨_, rfl⟩ | exact ⟨_, _, rfl⟩ | exact ⟨_, rfl, by assumption⟩ | exact ⟨_, _, rfl, by assumption⟩⟩, k6.2⟩
  · split at h
    · obtain ⟨x3, h3, h⟩ := bnd_ok h
      have k3 := must_ok h3 k2.2
      obtain ⟨x4, h4, h⟩ := bnd_ok h
      have k4 := name_ok h4 k3
      obtain ⟨x5, h5, h⟩ := bnd_ok h
      have k5 := must_ok h5 k4.2
      obtain ⟨x6, h6, h⟩ := bnd_ok h
      have k6 := arg_ok h6 k5
      obtain ⟨x7, h7, h⟩ := bnd_ok h
      have k7 := oneOf_ok h7 k6.2
      have k71 := k7.1
      obtain ⟨x8, h8, h⟩ := bnd_ok h
      have k8 := arg_ok h8 k7.2
      injection h with h
      subst h
      exact ⟨⟨k1.1, by simp, by simp, hol, one_len k2.1, one_len k4.1, ho, k6.1, k8.1, op_len (by decide) k7.1, hr, by refine ⟨fun q => ?_, fun q => ?_, fun q => ?_, fun q => ?_, fun q q2 => ?_⟩ <;> first | (exfalso; dsimp only at *; omega) | exact ⟨_, rfl⟩ | exact ⟨_, _, rfl⟩ | exact ⟨_, rfl, by assumption⟩ | exact ⟨_, _, rfl, by assumption⟩⟩, k8.2⟩
    · split at h
      · obtain ⟨x3, h3, h⟩ := bnd_ok h
        have k3 := must_ok h3 k2.2
        obtain ⟨x4, h4, h⟩ := bnd_ok h
        have k4 := names_ok h4 k3
        injection h with h
        subst h
        exact ⟨⟨k1.1, by simp, k4.2.1, hol, one_len k2.1, fun x hx => by have := k4.1 x hx; omega, ho, agg0_ok, agg0_ok, by simp, hr, by refine ⟨fun q => ?_, fun q => ?_, fun q => ?_, fun q => ?_, fun q q2 => ?_⟩ <;> first | (exfalso; dsimp only at *; omega) | exact ⟨_, rfl⟩ | exact ⟨_, _, rfl⟩ | exact ⟨_, rfl, by assumption⟩ | exact ⟨_, _, rfl, by assumption⟩⟩, k4.2.2⟩
      · split at h
        · obtain ⟨x3, h3, h⟩ := bnd_ok h
          have k3 := must_ok h3 k2.2
          obtain ⟨x4, h4, h⟩ := bnd_ok h
          have k4 := name_ok h4 k3
          injection h with h
          subst h
          exact ⟨⟨k1.1, by simp, by simp, hol, two_len k2.1 k4.1, nil_len, ho, agg0_ok, agg0_ok, by simp, hr, by refine ⟨fun q => ?_, fun q => ?_, fun q => ?_, fun q => ?_, fun q q2 => ?_⟩ <;> first | (exfalso; dsimp only at *; omega) | exact ⟨_, rfl⟩ | exact ⟨_, _, rfl⟩ | exact ⟨_, rfl, by assumption⟩ | exact ⟨_, _, rfl, by assumption⟩⟩, k4.2⟩
        · split at h
          · obtain ⟨x3, h3, h⟩ := bnd_ok h
            have k3 := must_ok h3 k2.2
            obtain ⟨x4, h4, h⟩ := bnd_ok h
            have k4 := name_ok h4 k3
            obtain ⟨x5, h5, h⟩ := bnd_ok h
            have k5 := must_ok h5 k4.2
            obtain ⟨x6, h6, h⟩ := bnd_ok h
            have k6 := name_ok h6 k5
            obtain ⟨x7, h7, h⟩ := bnd_ok h
            have k7 := must_ok h7 k6.2
            obtain ⟨x8, h8, h⟩ := bnd_ok h
            have k8 := name_ok h8 k7
            injection h with h
            subst h
            exact ⟨⟨k1.1, by simp, by simp, hol, two_len k2.1 k6.1, two_len k4.1 k8.1, ho, agg0_ok, agg0_ok, by simp, hr, by refine ⟨fun q => ?_, fun q => ?_, fun q => ?_, fun q => ?_, fun q q2 => ?_⟩ <;> first | (exfalso; dsimp only at *; omega) | exact ⟨_, rfl⟩ | exact ⟨_, _, rfl⟩ | exact ⟨_, rfl, by assumption⟩ | exact ⟨_, _, rfl, by assumption⟩⟩, k8.2⟩
          · split at h
            · obtain ⟨x3, h3, h⟩ := bnd_ok h
              have k3 := must_ok h3 k2.2
              obtain ⟨x4, h4, h⟩ := bnd_ok h
              have k4 := name_ok h4 k3
              obtain ⟨x5, h5, h⟩ := bnd_ok h
              have k5 := oneOf_ok h5 k4.2
              have k51 : x5.1 = wSum ∨ x5.1 = wMax := by simpa using k5.1
              obtain ⟨x6, h6, h⟩ := bnd_ok h
              have k6 := name_ok h6 k5.2
              injection h with h
              subst h
              exact ⟨⟨k1.1, by simp, by simp, hol, one_len k2.1, two_len k4.1 k6.1, ho, agg0_ok, agg0_ok, op_len (by decide) k5.1, hr, by refine ⟨fun q => ?_, fun q => ?_, fun q => ?_, fun q => ?_, fun q q2 => ?_⟩ <;> first | (exfalso; dsimp only at *; omega) | exact ⟨_, rfl⟩ | exact ⟨_, _, rfl⟩ | exact ⟨_, rfl, by assumption⟩ | exact ⟨_, _, rfl, by assumption⟩⟩, k6.2⟩
            · injection h with h
              subst h
              exact ⟨⟨k1.1, by simp, by simp, hol, one_len k2.1, nil_len, ho, agg0_ok, agg0_ok, by simp, hr, by refine ⟨fun q => ?_, fun q => ?_, fun q => ?_, fun q => ?_, fun q q2 => ?_⟩ <;> first | (exfalso; dsimp only at *; omega) | exact ⟨_, rfl⟩ | exact ⟨_, _, rfl⟩ | exact ⟨_, rfl, by assumption⟩ | exact ⟨_, _, rfl, by assumption⟩⟩, k2.2⟩
theorem job_ok {ts : List Tk} {a : FJob × List Tk} (h : jobP ts = .ok a) (hn : NM ts) : JobOK a.1 ∧ NM a.2 := by
  obtain ⟨x1, h1, h⟩ := bnd_ok h
  have k1 := must_ok h1 hn
  obtain ⟨x2, h2, h⟩ := bnd_ok h
  have k2 := names_ok h2 k1
  obtain ⟨x3, h3, h⟩ := bnd_ok h
  have k3 := retry_ok h3 k2.2.2
  obtain ⟨x4, h4, h⟩ := bnd_ok h
  have k4 := must_ok h4 k3.2.2
  obtain ⟨x5, h5, h⟩ := bnd_ok h
  have k5 := body_ok h5 k4 (fun x hx => by have := k2.1 x hx; omega) k2.2.1 ⟨k3.1, by have := k3.2.1; omega⟩
  obtain ⟨x6, h6, h⟩ := bnd_ok h
  have k6 := must_ok h6 k5.2
  injection h with h
  subst h
  exact ⟨k5.1, k6⟩
theorem publish_ok {ts : List Tk} {a : FOut × List Tk} (h : publishP ts = .ok a) (hn : NM ts) : OutOK a.1 ∧ NM a.2 := by
  obtain ⟨x1, h1, h⟩ := bnd_ok h
  have k1 := must_ok h1 hn
  obtain ⟨x2, h2, h⟩ := bnd_ok h
  have k2 := name_ok h2 k1
  obtain ⟨x3, h3, h⟩ := bnd_ok h
  have k3 := must_ok h3 k2.2
  obtain ⟨x4, h4, h⟩ := bnd_ok h
  have k4 := name_ok h4 k3
  obtain ⟨x5, h5, h⟩ := bnd_ok h
  have k5 := must_ok h5 k4.2
  injection h with h
  subst h
  exact ⟨⟨k2.1, k4.1⟩, k5⟩
theorem parts_ok {α : Type} {x : By} {p : List Tk → PE α} {Q : α → Prop} (hp : ∀ ts a, p ts = .ok a → NM ts → Q a.1 ∧ NM a.2) : ∀ (g : Nat) (acc : List α) (ts : List Tk) (a : List α × List Tk), partsP x p g acc ts = .ok a → NM ts → (∀ y ∈ acc, Q y) → acc.length ≤ 16 → (∀ y ∈ a.1, Q y) ∧ a.1.length ≤ 16 ∧ NM a.2
  | 0, acc, ts, a, h, hn, ha, hl => by
    unfold partsP at h
    injection h with h
    subst h
    exact ⟨ha, hl, hn⟩
  | g + 1, acc, ts, a, h, hn, ha, hl => by
    unfold partsP at h
    split at h
    · split at h
      · cases h
      · rename_i h16
        obtain ⟨y, hy, h⟩ := bnd_ok h
        have h1 := hp _ _ hy hn
        exact parts_ok hp g _ _ a h h1.2 (by
          intro z hz
          rcases List.mem_append.1 hz with hz | hz
          · exact ha z hz
          · rw [List.mem_singleton.1 hz]; exact h1.1) (by simp; omega)
    · injection h with h
      subst h
      exact ⟨ha, hl, hn⟩
structure FlwOK (f : Flw) : Prop where
  ins : ∀ a ∈ f.ins, InOK a
  jobs : ∀ a ∈ f.jobs, JobOK a
  outs : ∀ a ∈ f.outs, OutOK a
  il : f.ins.length ≤ 16
  jl : f.jobs.length ≤ 16
  ol : f.outs.length ≤ 16
theorem flow_ok {ts : List Tk} {f : Flw} (h : flowP ts = .ok f) (hn : NM ts) : FlwOK f := by
  obtain ⟨x1, h1, h⟩ := bnd_ok h
  have k1 := parts_ok (Q := InOK) (fun ts a h hn => input_ok h hn) _ _ _ x1 h1 hn (by simp) (by simp)
  obtain ⟨x2, h2, h⟩ := bnd_ok h
  have k2 := parts_ok (Q := JobOK) (fun ts a h hn => job_ok h hn) _ _ _ x2 h2 k1.2.2 (by simp) (by simp)
  obtain ⟨x3, h3, h⟩ := bnd_ok h
  have k3 := parts_ok (Q := OutOK) (fun ts a h hn => publish_ok h hn) _ _ _ x3 h3 k2.2.2 (by simp) (by simp)
  unfold lastP at h
  split at h
  · cases h
  · split at h
    · cases h
    · split at h
      · cases h
      · injection h with h
        subst h
        exact ⟨k1.1, k2.1, k3.1, k1.2.1, k2.2.1, k3.2.1⟩
theorem parse_ok {l : By} {f : Flw} (hl : l.length ≤ 1000000) (h : parseF l = .ok f) : FlwOK f := by
  obtain ⟨ts, h1, h⟩ := bnd_ok h
  have hg := tokens_good hl h1
  refine flow_ok h ⟨fun t ht => (hg.small t ht).2.2.2.2, ?_⟩
  unfold tokensL at h1
  cases hk : toksL (l.length + 1) l 0 0 with
  | error e => rw [hk] at h1; cases h1
  | ok us =>
    rw [hk] at h1
    simp only [Except.ok.injEq] at h1
    subst h1
    obtain ⟨h2, -⟩ := toks_good _ l 0 0 us l.length hk (by omega) (by omega)
    simp
    omega
/-- A flow's parts that can be read. -/
def RowR (w : World) (v : Value) (n z : Nat) (P : Nat → World → Nat → Nat → Prop) : Prop := (v = .slice none 0 0 ∧ n = 0) ∨ ∃ b c, v = .slice (some ⟨b, 0, none⟩) n c ∧ n ≤ c ∧ b < w.heap.size ∧ ∀ j, j < n → P j w b (j * z)
def InAt (l : List FIn) (j : Nat) (w : World) (b o : Nat) : Prop := ∃ (a : FIn) (v : Value), l[j]? = some a ∧ w.cell? ⟨b, o, none⟩ = some (.int .i64 (a.at_ : Nat)) ∧ w.cell? ⟨b, o + 1, none⟩ = some (.string (ba a.name)) ∧ w.cell? ⟨b, o + 2, none⟩ = some v ∧ ColsR w v a.cols
def OutAt (l : List FOut) (j : Nat) (w : World) (b o : Nat) : Prop := ∃ (a : FOut), l[j]? = some a ∧ w.cell? ⟨b, o, none⟩ = some (.int .i64 (a.at_ : Nat)) ∧ w.cell? ⟨b, o + 1, none⟩ = some (.string (ba a.name)) ∧ w.cell? ⟨b, o + 2, none⟩ = some (.string (ba a.from_))
def JobCellsAt (l : List FJob) (j : Nat) (w : World) (b o : Nat) : Prop := ∃ (a : FJob) (vo vi vc : Value), l[j]? = some a ∧ (∀ i u, (jobV a vo vi vc)[i]? = some u → w.cell? ⟨b, o + i, none⟩ = some u) ∧ StrsR w vo a.outs ∧ StrsR w vi a.ins ∧ StrsR w vc a.cols
theorem InAt.below {l : List FIn} {j b o : Nat} {w w' : World} (h : InAt l j w b o) (hb : Below w.heap.size w w') (hl : b < w.heap.size) : InAt l j w' b o := by
  obtain ⟨a, v, h1, h2, h3, h4, h5⟩ := h
  exact ⟨a, v, h1, (hb.cell (p := ⟨b, o, none⟩) hl).trans h2, (hb.cell (p := ⟨b, o + 1, none⟩) hl).trans h3, (hb.cell (p := ⟨b, o + 2, none⟩) hl).trans h4, h5.below hb⟩
theorem OutAt.below {l : List FOut} {j b o : Nat} {w w' : World} (h : OutAt l j w b o) (hb : Below w.heap.size w w') (hl : b < w.heap.size) : OutAt l j w' b o := by
  obtain ⟨a, h1, h2, h3, h4⟩ := h
  exact ⟨a, h1, (hb.cell (p := ⟨b, o, none⟩) hl).trans h2, (hb.cell (p := ⟨b, o + 1, none⟩) hl).trans h3, (hb.cell (p := ⟨b, o + 2, none⟩) hl).trans h4⟩
theorem JobCellsAt.below {l : List FJob} {j b o : Nat} {w w' : World} (h : JobCellsAt l j w b o) (hb : Below w.heap.size w w') (hl : b < w.heap.size) : JobCellsAt l j w' b o := by
  obtain ⟨a, vo, vi, vc, h1, h2, h3, h4, h5⟩ := h
  exact ⟨a, vo, vi, vc, h1, fun i u hu => (hb.cell (p := ⟨b, o + i, none⟩) hl).trans (h2 i u hu), h3.below hb, h4.below hb, h5.below hb⟩
theorem RowR.below {w w' : World} {v : Value} {n z : Nat} {P : Nat → World → Nat → Nat → Prop} (h : RowR w v n z P) (hb : Below w.heap.size w w') (hP : ∀ j b o, P j w b o → b < w.heap.size → P j w' b o) : RowR w' v n z P := by
  rcases h with h | ⟨b, c, hv, hc, hl, hx⟩
  · exact Or.inl h
  · exact Or.inr ⟨b, c, hv, hc, Nat.lt_of_lt_of_le hl hb.size, fun j hj => hP _ _ _ (hx j hj) hl⟩
theorem RowR.of {w : World} {B : Nat} {e : TypeId} {z n : Nat} {v : Value} {xs : List Value} {P : Nat → World → Nat → Nat → Prop} (h : w.ownsRow B e z v n xs) (hP : ∀ b, (∀ i u, i < n * z → xs[i]? = some u → w.cell? ⟨b, i, none⟩ = some u) → ∀ j, j < n → P j w b (j * z)) : RowR w v n z P := by
  have h0 := h
  obtain ⟨-, ⟨hv, hn0⟩ | ⟨g, cap, cur, hve, hgB, -, hcap, hm, -, -⟩⟩ := h
  · exact Or.inl ⟨by rw [hv], hn0⟩
  · subst hve
    refine Or.inr ⟨g, cap, rfl, hcap, (h0.lt g rfl).2, hP g fun i u hi hu => ?_⟩
    rw [h0.cellAt i hi, hu]
theorem insV_at : ∀ {w : World} {B : Nat} {l : List FIn} {vs : List Value}, HI w B l vs → ∀ j, j < l.length → ∃ a v, l[j]? = some a ∧ encCs B a.cols v w ∧ (insV l vs)[j * 3]? = some (.int .i64 (a.at_ : Nat)) ∧ (insV l vs)[j * 3 + 1]? = some (.string (ba a.name)) ∧ (insV l vs)[j * 3 + 2]? = some v
  | w, B, [], [], _, j, hj => absurd hj (by simp)
  | w, B, a :: l, v :: vs, h, 0, hj => ⟨a, v, rfl, h.1, rfl, rfl, rfl⟩
  | w, B, a :: l, v :: vs, h, j + 1, hj => by
    obtain ⟨b, u, h1, h2, h3, h4, h5⟩ := insV_at h.2 j (by simpa using hj)
    refine ⟨b, u, by simpa using h1, h2, ?_⟩
    have e : insV (a :: l) (v :: vs) = .int .i64 (a.at_ : Nat) :: .string (ba a.name) :: v :: insV l vs := rfl
    rw [e, show (j + 1) * 3 = j * 3 + 1 + 1 + 1 by omega, show j * 3 + 1 + 1 + 1 + 1 = (j * 3 + 1) + 1 + 1 + 1 by omega, show j * 3 + 1 + 1 + 1 + 2 = (j * 3 + 2) + 1 + 1 + 1 by omega]
    simpa using ⟨h3, h4, h5⟩
theorem InsAt.row {w : World} {B : Nat} {l : List FIn} {v : Value} (h : InsAt w B l v) : RowR w v l.length 3 (InAt l) := by
  obtain ⟨vs, h1, h2⟩ := h
  refine RowR.of h1 fun b hb j hj => ?_
  obtain ⟨a, u, k1, k2, k3, k4, k5⟩ := insV_at h2 j hj
  exact ⟨a, u, k1, hb _ _ (by omega) k3, hb _ _ (by omega) k4, hb _ _ (by omega) k5, ColsR.of k2⟩
theorem outsV_at : ∀ (l : List FOut) (j : Nat), j < l.length → ∃ a, l[j]? = some a ∧ (outsV l)[j * 3]? = some (.int .i64 (a.at_ : Nat)) ∧ (outsV l)[j * 3 + 1]? = some (.string (ba a.name)) ∧ (outsV l)[j * 3 + 2]? = some (.string (ba a.from_))
  | [], j, hj => absurd hj (by simp)
  | a :: l, 0, hj => ⟨a, rfl, rfl, rfl, rfl⟩
  | a :: l, j + 1, hj => by
    obtain ⟨b, h1, h3, h4, h5⟩ := outsV_at l j (by simpa using hj)
    refine ⟨b, by simpa using h1, ?_⟩
    have e : outsV (a :: l) = .int .i64 (a.at_ : Nat) :: .string (ba a.name) :: .string (ba a.from_) :: outsV l := rfl
    rw [e, show (j + 1) * 3 = j * 3 + 1 + 1 + 1 by omega, show j * 3 + 1 + 1 + 1 + 1 = (j * 3 + 1) + 1 + 1 + 1 by omega, show j * 3 + 1 + 1 + 1 + 2 = (j * 3 + 2) + 1 + 1 + 1 by omega]
    simpa using ⟨h3, h4, h5⟩
theorem outs_row {w : World} {B : Nat} {l : List FOut} {v : Value} (h : w.ownsRow B 115 3 v l.length (outsV l)) : RowR w v l.length 3 (OutAt l) := by
  refine RowR.of h fun b hb j hj => ?_
  obtain ⟨a, k1, k3, k4, k5⟩ := outsV_at l j hj
  exact ⟨a, k1, hb _ _ (by omega) k3, hb _ _ (by omega) k4, hb _ _ (by omega) k5⟩
theorem jobsV_at : ∀ {w : World} {B : Nat} {l : List FJob} {vs : List (Value × Value × Value)}, HJ w B l vs → ∀ j, j < l.length → ∃ (a : FJob) (v : Value × Value × Value), l[j]? = some a ∧ (encL B a.outs v.1 w ∧ encL B a.ins v.2.1 w ∧ encL B a.cols v.2.2 w) ∧ ∀ i u, (jobV a v.1 v.2.1 v.2.2)[i]? = some u → (jobsV l vs)[j * 15 + i]? = some u
  | w, B, [], [], _, j, hj => absurd hj (by simp)
  | w, B, a :: l, v :: vs, h, 0, hj => ⟨a, v, rfl, h.1, fun i u hu => by
      have hi : i < 15 := (List.getElem?_eq_some_iff.1 hu).1
      rw [show jobsV (a :: l) (v :: vs) = jobV a v.1 v.2.1 v.2.2 ++ jobsV l vs from rfl, show 0 * 15 + i = i by omega, List.getElem?_append_left (by exact hi)]
      exact hu⟩
  | w, B, a :: l, v :: vs, h, j + 1, hj => by
    obtain ⟨b, u, h1, h2, h3⟩ := jobsV_at h.2 j (by simpa using hj)
    refine ⟨b, u, by simpa using h1, h2, fun i x hx => ?_⟩
    rw [show jobsV (a :: l) (v :: vs) = jobV a v.1 v.2.1 v.2.2 ++ jobsV l vs from rfl, List.getElem?_append_right (by show 15 ≤ _; omega)]
    rw [show (j + 1) * 15 + i - (jobV a v.1 v.2.1 v.2.2).length = j * 15 + i by show _ - 15 = _; omega]
    exact h3 i x hx
theorem JobsAt.row {w : World} {B : Nat} {l : List FJob} {v : Value} (h : JobsAt w B l v) : RowR w v l.length 15 (JobCellsAt l) := by
  obtain ⟨vs, h1, h2⟩ := h
  refine RowR.of h1 fun b hb j hj => ?_
  obtain ⟨a, u, k1, k2, k3⟩ := jobsV_at h2 j hj
  refine ⟨a, u.1, u.2.1, u.2.2, k1, fun i x hx => ?_, StrsR.of k2.1, StrsR.of k2.2.1, StrsR.of k2.2.2⟩
  have hi : i < 15 := (List.getElem?_eq_some_iff.1 hx).1
  exact hb _ _ (by omega) (k3 i x hx)
/-- A flow that can be read. -/
structure FlowRd (w : World) (f : Flw) (vi vj vo : Value) : Prop where
  ins : RowR w vi f.ins.length 3 (InAt f.ins)
  jobs : RowR w vj f.jobs.length 15 (JobCellsAt f.jobs)
  outs : RowR w vo f.outs.length 3 (OutAt f.outs)
theorem FlowRd.below {w w' : World} {f : Flw} {vi vj vo : Value} (h : FlowRd w f vi vj vo) (hb : Below w.heap.size w w') : FlowRd w' f vi vj vo :=
  ⟨h.ins.below hb fun _ _ _ hh hl => hh.below hb hl, h.jobs.below hb fun _ _ _ hh hl => hh.below hb hl, h.outs.below hb fun _ _ _ hh hl => hh.below hb hl⟩
theorem FlowRd.of {w : World} {B : Nat} {f : Flw} {vi vj vo : Value} (h : FlowO w B f.ins vi f.jobs vj f.outs vo) : FlowRd w f vi vj vo := ⟨h.ins.row, h.jobs.row, outs_row h.row⟩
end Go.Proofs.YtfifbnopgpffkaaGreatDoor.Fw
