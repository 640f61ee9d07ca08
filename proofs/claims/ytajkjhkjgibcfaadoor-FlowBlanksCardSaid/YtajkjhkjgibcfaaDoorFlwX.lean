import Derived.Test.YtajkjhkjgibcfaaDoorFlwV
set_option linter.unusedSimpArgs false
set_option linter.unusedVariables false
namespace Go.Proofs.YtajkjhkjgibcfaaDoor
open Go.RowKit

/-- Tokens whose numbers bear no sign, not too many. -/
def NM (ts : List Tk) : Prop := (∀ t ∈ ts, t.1 = 1 → (t.2.1.head?.map (·.toNat)) ≠ some 45) ∧ ts.length ≤ 900
theorem NM.tail {ts : List Tk} (h : NM ts) : NM ts.tail := ⟨fun t ht => h.1 t (List.mem_of_mem_tail ht), by have := h.2; simp; omega⟩
theorem bnd_ok {α β ε : Type} {p : Except ε α} {f : α → Except ε β} {r : β} (h : p.bind f = .ok r) : ∃ a, p = .ok a ∧ f a = .ok r := by
  cases p with
  | error e => cases h
  | ok a => exact ⟨a, rfl, h⟩
theorem map_ok {α β ε : Type} {p : Except ε α} {f : α → β} {r : β} (h : p.map f = .ok r) : ∃ a, p = .ok a ∧ f a = r := by
  cases p with
  | error e => cases h
  | ok a => exact ⟨a, rfl, by injection h⟩
theorem name_ok {ts : List Tk} {a : By × List Tk} (h : nameP ts = .ok a) (hn : NM ts) : a.1.length ≤ 10 ∧ NM a.2 := by
  unfold nameP at h
  split at h
  · cases h
  · split at h
    · cases h
    · injection h with h
      subst h
      exact ⟨by dsimp only; omega, hn.tail⟩
theorem must_ok {x : By} {ts : List Tk} {a : Nat × List Tk} (h : mustP x ts = .ok a) (hn : NM ts) : NM a.2 := by
  unfold mustP at h
  split at h
  · injection h with h
    subst h
    exact hn.tail
  · cases h
theorem oneOf_ok {xs : List By} {ts : List Tk} {a : By × List Tk} (h : oneOfP xs ts = .ok a) (hn : NM ts) : a.1 ∈ xs ∧ NM a.2 := by
  unfold oneOfP at h
  split at h
  · rename_i hm
    injection h with h
    subst h
    exact ⟨hm, hn.tail⟩
  · cases h
theorem num_ok {most : Int} {ts : List Tk} {a : Int × List Tk} (h : numP most ts = .ok a) (hn : NM ts) : 0 ≤ a.1 ∧ a.1 ≤ most ∧ NM a.2 := by
  unfold numP at h
  split at h
  · cases h
  · rename_i hk
    split at h
    · cases h
    · injection h with h
      subst h
      refine ⟨atoi_pos ?_, by omega, hn.tail⟩
      cases ts with
      | nil => simp [textT]
      | cons t r => exact hn.1 t (by simp) (by simpa [kindT] using hk)
theorem quo_ok {ts : List Tk} {a : By × List Tk} (h : quoP ts = .ok a) (hn : NM ts) : a.1.length ≤ 1000 ∧ NM a.2 := by
  unfold quoP at h
  split at h
  · cases h
  · split at h
    · cases h
    · rename_i hr
      injection h with h
      subst h
      refine ⟨?_, hn.tail⟩
      have := right_small (show rightValueB 2 0 (innerL (textT ts)) = true by simpa using hr)
      dsimp only
      omega
theorem arg_ok {ts : List Tk} {a : Ag × List Tk} (h : argP ts = .ok a) (hn : NM ts) : AgOK a.1 ∧ NM a.2 := by
  unfold argP at h
  split at h
  · obtain ⟨x, hx, rfl⟩ := map_ok h
    have := name_ok hx hn
    exact ⟨⟨by dsimp only; omega, by simp, by dsimp only; omega, by dsimp only; omega⟩, this.2⟩
  · split at h
    · obtain ⟨x, hx, rfl⟩ := map_ok h
      have := quo_ok hx hn
      exact ⟨⟨by simp, this.1, by dsimp only; omega, by dsimp only; omega⟩, this.2⟩
    · split at h
      · obtain ⟨x, hx, rfl⟩ := map_ok h
        have := num_ok hx hn.tail
        exact ⟨⟨by simp, by simp, by dsimp only; omega, by dsimp only; omega⟩, this.2.2⟩
      · obtain ⟨x, hx, rfl⟩ := map_ok h
        have := num_ok hx hn
        exact ⟨⟨by simp, by simp, by dsimp only; omega, by dsimp only; omega⟩, this.2.2⟩
theorem more_ok : ∀ (g : Nat) (acc : List By) (ts : List Tk) (a : List By × List Tk), moreP g acc ts = .ok a → NM ts → (∀ x ∈ acc, x.length ≤ 10) → (∀ x ∈ a.1, x.length ≤ 10) ∧ a.1.length ≤ acc.length + g ∧ NM a.2
  | 0, acc, ts, a, h, hn, ha => by
    unfold moreP at h
    injection h with h
    subst h
    exact ⟨ha, by dsimp only; omega, hn⟩
  | g + 1, acc, ts, a, h, hn, ha => by
    unfold moreP at h
    split at h
    · obtain ⟨x, hx, h⟩ := bnd_ok h
      have h1 := name_ok hx hn.tail
      have h2 := more_ok g _ _ a h h1.2 (by
        intro y hy
        rcases List.mem_append.1 hy with hy | hy
        · exact ha y hy
        · rw [List.mem_singleton.1 hy]; exact h1.1)
      refine ⟨h2.1, ?_, h2.2.2⟩
      have := h2.2.1
      simp at this
      omega
    · injection h with h
      subst h
      exact ⟨ha, by dsimp only; omega, hn⟩
theorem names_ok {ts : List Tk} {a : List By × List Tk} (h : namesP ts = .ok a) (hn : NM ts) : (∀ x ∈ a.1, x.length ≤ 10) ∧ a.1.length ≤ 1000 ∧ NM a.2 := by
  obtain ⟨x, hx, h⟩ := bnd_ok h
  have h1 := name_ok hx hn
  have h2 := more_ok _ _ _ a h h1.2 (by intro y hy; rw [List.mem_singleton.1 hy]; exact h1.1)
  refine ⟨h2.1, ?_, h2.2.2⟩
  have := h2.2.1
  have := h1.2.2
  simp at *
  omega
theorem column_ok {ts : List Tk} {a : (By × Int) × List Tk} (h : columnP ts = .ok a) (hn : NM ts) : (a.1.1.length ≤ 10 ∧ (a.1.2 = 1 ∨ a.1.2 = 2)) ∧ NM a.2 := by
  obtain ⟨x, hx, h⟩ := bnd_ok h
  have h1 := name_ok hx hn
  split at h
  · injection h with h
    subst h
    exact ⟨⟨h1.1, Or.inl rfl⟩, h1.2.tail⟩
  · split at h
    · injection h with h
      subst h
      exact ⟨⟨h1.1, Or.inr rfl⟩, h1.2.tail⟩
    · cases h
theorem retry_ok {ts : List Tk} {a : Int × List Tk} (h : retryP ts = .ok a) (hn : NM ts) : 0 ≤ a.1 ∧ a.1 ≤ 5 ∧ NM a.2 := by
  unfold retryP at h
  split at h
  · exact num_ok h hn.tail
  · injection h with h
    subst h
    exact ⟨by dsimp only; omega, by dsimp only; omega, hn⟩
end Go.Proofs.YtajkjhkjgibcfaaDoor

