import Derived.Test.YtajkjhkjgibcfaaDoorFlwX
set_option linter.unusedSimpArgs false
set_option linter.unusedVariables false
namespace Go.Proofs.YtajkjhkjgibcfaaDoor
open Go.RowKit

def InOK (a : FIn) : Prop := a.name.length ≤ 10 ∧ a.cols.length ≤ 1000 ∧ ∀ x ∈ a.cols, ColOK x
def OutOK (a : FOut) : Prop := a.name.length ≤ 10 ∧ a.from_.length ≤ 10
theorem cols_ok : ∀ (g : Nat) (acc : List (By × Int)) (ts : List Tk) (a : List (By × Int) × List Tk), colsP g acc ts = .ok a → NM ts → (∀ x ∈ acc, ColOK x) → (∀ x ∈ a.1, ColOK x) ∧ a.1.length ≤ acc.length + g ∧ NM a.2
  | 0, acc, ts, a, h, hn, ha => by
    unfold colsP at h
    injection h with h
    subst h
    exact ⟨ha, by dsimp only; omega, hn⟩
  | g + 1, acc, ts, a, h, hn, ha => by
    unfold colsP at h
    split at h
    · obtain ⟨x, hx, h⟩ := bnd_ok h
      have h1 := column_ok hx hn.tail
      have h2 := cols_ok g _ _ a h h1.2 (by
        intro y hy
        rcases List.mem_append.1 hy with hy | hy
        · exact ha y hy
        · rw [List.mem_singleton.1 hy]; exact ⟨by have := h1.1.1; omega, h1.1.2⟩)
      refine ⟨h2.1, ?_, h2.2.2⟩
      have := h2.2.1
      simp at this
      omega
    · injection h with h
      subst h
      exact ⟨ha, by dsimp only; omega, hn⟩
theorem input_ok {ts : List Tk} {a : FIn × List Tk} (h : inputP ts = .ok a) (hn : NM ts) : InOK a.1 ∧ NM a.2 := by
  obtain ⟨x1, h1, h⟩ := bnd_ok h
  have k1 := must_ok h1 hn
  obtain ⟨x2, h2, h⟩ := bnd_ok h
  have k2 := name_ok h2 k1
  obtain ⟨x3, h3, h⟩ := bnd_ok h
  have k3 := must_ok h3 k2.2
  obtain ⟨x4, h4, h⟩ := bnd_ok h
  have k4 := column_ok h4 k3
  obtain ⟨x5, h5, h⟩ := bnd_ok h
  have k5 := cols_ok _ _ _ x5 h5 k4.2 (by intro y hy; rw [List.mem_singleton.1 hy]; exact ⟨by have := k4.1.1; omega, k4.1.2⟩)
  obtain ⟨x6, h6, h⟩ := bnd_ok h
  have k6 := must_ok h6 k5.2.2
  injection h with h
  subst h
  refine ⟨⟨k2.1, ?_, k5.1⟩, k6⟩
  have := k5.2.1
  have := k4.2.2
  simp at *
  omega
theorem code_ok {ts : List Tk} {a : Int × List Tk} (h : codeP ts = .ok a) (hn : NM ts) : (a.1 = 1 ∨ a.1 = 2 ∨ a.1 = 3 ∨ a.1 = 4 ∨ a.1 = 5 ∨ a.1 = 6 ∨ a.1 = 7 ∨ a.1 = 8 ∨ a.1 = 9) ∧ NM a.2 := by
  refine ⟨code_range (ts' := a.2) (by rw [h]), ?_⟩
  unfold codeP at h
  split at h
  · injection h with h
    subst h
    exact hn.tail
  · cases h
theorem op_len {xs : List By} {x : By} (hx : ∀ y ∈ xs, y.length ≤ 1000) (h : x ∈ xs) : x.length ≤ 1000 := hx x h
theorem agg0_ok : AgOK agg0 := by unfold AgOK agg0; decide
theorem one_len {a : By} (h : a.length ≤ 10) : ∀ x ∈ [a], x.length ≤ 1000 := by intro x hx; rw [List.mem_singleton.1 hx]; omega
theorem two_len {a b : By} (h : a.length ≤ 10) (h' : b.length ≤ 10) : ∀ x ∈ [a, b], x.length ≤ 1000 := by intro x hx; simp at hx; rcases hx with rfl | rfl <;> omega
theorem nil_len : ∀ x ∈ ([] : List By), x.length ≤ 1000 := by simp
theorem name_ag {a : By} (h : a.length ≤ 10) : AgOK (a, 0, 0, []) := ⟨by dsimp only; omega, by simp, by dsimp only; omega, by dsimp only; omega⟩
theorem body_ok {at_ : Nat} {outs : List By} {retry : Int} {ts : List Tk} {a : FJob × List Tk} (h : bodyP at_ outs retry ts = .ok a) (hn : NM ts) (ho : ∀ x ∈ outs, x.length ≤ 1000) (hol : outs.length ≤ 1000) (hr : 0 ≤ retry ∧ retry ≤ 1000) : JobOK a.1 ∧ NM a.2 := by
  obtain ⟨c, h1, h⟩ := bnd_ok h
  have k1 := code_ok h1 hn
  obtain ⟨i, h2, h⟩ := bnd_ok h
  have k2 := name_ok h2 k1.2
  split at h
  · obtain ⟨x3, h3, h⟩ := bnd_ok h
    have k3 := must_ok h3 k2.2
    obtain ⟨x4, h4, h⟩ := bnd_ok h
    have k4 := name_ok h4 k3
    obtain ⟨x5, h5, h⟩ := bnd_ok h
    have k5 := oneOf_ok h5 k4.2
    obtain ⟨x6, h6, h⟩ := bnd_ok h
    have k6 := arg_ok h6 k5.2
    injection h with h
    subst h
    exact ⟨⟨k1.1, by simp, by simp, hol, one_len k2.1, nil_len, ho, name_ag k4.1, k6.1, op_len (by decide) k5.1, hr⟩, k6.2⟩
  · split at h
    · obtain ⟨x3, h3, h⟩ := bnd_ok h
      have k3 := must_ok h3 k2.2
      obtain ⟨x4, h4, h⟩ := bnd_ok h
      have k4 := name_ok h4 k3
      obtain ⟨x5, h5, h⟩ := bnd_ok h
      have k5 := must_ok h5 k4.2
      obtain ⟨x6, h6, h⟩ := bnd_ok h
      have k6 := arg_ok h6 k5
      obtain ⟨x7, h7, h⟩ := bnd_ok h
      have k7 := oneOf_ok h7 k6.2
      obtain ⟨x8, h8, h⟩ := bnd_ok h
      have k8 := arg_ok h8 k7.2
      injection h with h
      subst h
      exact ⟨⟨k1.1, by simp, by simp, hol, one_len k2.1, one_len k4.1, ho, k6.1, k8.1, op_len (by decide) k7.1, hr⟩, k8.2⟩
    · split at h
      · obtain ⟨x3, h3, h⟩ := bnd_ok h
        have k3 := must_ok h3 k2.2
        obtain ⟨x4, h4, h⟩ := bnd_ok h
        have k4 := names_ok h4 k3
        injection h with h
        subst h
        exact ⟨⟨k1.1, by simp, k4.2.1, hol, one_len k2.1, fun x hx => by have := k4.1 x hx; omega, ho, agg0_ok, agg0_ok, by simp, hr⟩, k4.2.2⟩
      · split at h
        · obtain ⟨x3, h3, h⟩ := bnd_ok h
          have k3 := must_ok h3 k2.2
          obtain ⟨x4, h4, h⟩ := bnd_ok h
          have k4 := name_ok h4 k3
          injection h with h
          subst h
          exact ⟨⟨k1.1, by simp, by simp, hol, two_len k2.1 k4.1, nil_len, ho, agg0_ok, agg0_ok, by simp, hr⟩, k4.2⟩
        · split at h
          · obtain ⟨x3, h3, h⟩ := bnd_ok h
            have k3 := must_ok h3 k2.2
            obtain ⟨x4, h4, h⟩ := bnd_ok h
            have k4 := name_ok h4 k3
            obtain ⟨x5, h5, h⟩ := bnd_ok h
            have k5 := must_ok h5 k4.2
            obtain ⟨x6, h6, h⟩ := bnd_ok h
            have k6 := name_ok h6 k5
            obtain ⟨x7, h7, h⟩ := bnd_ok h
            have k7 := must_ok h7 k6.2
            obtain ⟨x8, h8, h⟩ := bnd_ok h
            have k8 := name_ok h8 k7
            injection h with h
            subst h
            exact ⟨⟨k1.1, by simp, by simp, hol, two_len k2.1 k6.1, two_len k4.1 k8.1, ho, agg0_ok, agg0_ok, by simp, hr⟩, k8.2⟩
          · split at h
            · obtain ⟨x3, h3, h⟩ := bnd_ok h
              have k3 := must_ok h3 k2.2
              obtain ⟨x4, h4, h⟩ := bnd_ok h
              have k4 := name_ok h4 k3
              obtain ⟨x5, h5, h⟩ := bnd_ok h
              have k5 := oneOf_ok h5 k4.2
              obtain ⟨x6, h6, h⟩ := bnd_ok h
              have k6 := name_ok h6 k5.2
              injection h with h
              subst h
              exact ⟨⟨k1.1, by simp, by simp, hol, one_len k2.1, two_len k4.1 k6.1, ho, agg0_ok, agg0_ok, op_len (by decide) k5.1, hr⟩, k6.2⟩
            · injection h with h
              subst h
              exact ⟨⟨k1.1, by simp, by simp, hol, one_len k2.1, nil_len, ho, agg0_ok, agg0_ok, by simp, hr⟩, k2.2⟩
theorem job_ok {ts : List Tk} {a : FJob × List Tk} (h : jobP ts = .ok a) (hn : NM ts) : JobOK a.1 ∧ NM a.2 := by
  obtain ⟨x1, h1, h⟩ := bnd_ok h
  have k1 := must_ok h1 hn
  obtain ⟨x2, h2, h⟩ := bnd_ok h
  have k2 := names_ok h2 k1
  obtain ⟨x3, h3, h⟩ := bnd_ok h
  have k3 := retry_ok h3 k2.2.2
  obtain ⟨x4, h4, h⟩ := bnd_ok h
  have k4 := must_ok h4 k3.2.2
  obtain ⟨x5, h5, h⟩ := bnd_ok h
  have k5 := body_ok h5 k4 (fun x hx => by have := k2.1 x hx; omega) k2.2.1 ⟨k3.1, by have := k3.2.1; omega⟩
  obtain ⟨x6, h6, h⟩ := bnd_ok h
  have k6 := must_ok h6 k5.2
  injection h with h
  subst h
  exact ⟨k5.1, k6⟩
theorem publish_ok {ts : List Tk} {a : FOut × List Tk} (h : publishP ts = .ok a) (hn : NM ts) : OutOK a.1 ∧ NM a.2 := by
  obtain ⟨x1, h1, h⟩ := bnd_ok h
  have k1 := must_ok h1 hn
  obtain ⟨x2, h2, h⟩ := bnd_ok h
  have k2 := name_ok h2 k1
  obtain ⟨x3, h3, h⟩ := bnd_ok h
  have k3 := must_ok h3 k2.2
  obtain ⟨x4, h4, h⟩ := bnd_ok h
  have k4 := name_ok h4 k3
  obtain ⟨x5, h5, h⟩ := bnd_ok h
  have k5 := must_ok h5 k4.2
  injection h with h
  subst h
  exact ⟨⟨k2.1, k4.1⟩, k5⟩
theorem parts_ok {α : Type} {x : By} {p : List Tk → PE α} {Q : α → Prop} (hp : ∀ ts a, p ts = .ok a → NM ts → Q a.1 ∧ NM a.2) : ∀ (g : Nat) (acc : List α) (ts : List Tk) (a : List α × List Tk), partsP x p g acc ts = .ok a → NM ts → (∀ y ∈ acc, Q y) → acc.length ≤ 16 → (∀ y ∈ a.1, Q y) ∧ a.1.length ≤ 16 ∧ NM a.2
  | 0, acc, ts, a, h, hn, ha, hl => by
    unfold partsP at h
    injection h with h
    subst h
    exact ⟨ha, hl, hn⟩
  | g + 1, acc, ts, a, h, hn, ha, hl => by
    unfold partsP at h
    split at h
    · split at h
      · cases h
      · rename_i h16
        obtain ⟨y, hy, h⟩ := bnd_ok h
        have h1 := hp _ _ hy hn
        exact parts_ok hp g _ _ a h h1.2 (by
          intro z hz
          rcases List.mem_append.1 hz with hz | hz
          · exact ha z hz
          · rw [List.mem_singleton.1 hz]; exact h1.1) (by simp; omega)
    · injection h with h
      subst h
      exact ⟨ha, hl, hn⟩
structure FlwOK (f : Flw) : Prop where
  ins : ∀ a ∈ f.ins, InOK a
  jobs : ∀ a ∈ f.jobs, JobOK a
  outs : ∀ a ∈ f.outs, OutOK a
  il : f.ins.length ≤ 16
  jl : f.jobs.length ≤ 16
  ol : f.outs.length ≤ 16
theorem flow_ok {ts : List Tk} {f : Flw} (h : flowP ts = .ok f) (hn : NM ts) : FlwOK f := by
  obtain ⟨x1, h1, h⟩ := bnd_ok h
  have k1 := parts_ok (Q := InOK) (fun ts a h hn => input_ok h hn) _ _ _ x1 h1 hn (by simp) (by simp)
  obtain ⟨x2, h2, h⟩ := bnd_ok h
  have k2 := parts_ok (Q := JobOK) (fun ts a h hn => job_ok h hn) _ _ _ x2 h2 k1.2.2 (by simp) (by simp)
  obtain ⟨x3, h3, h⟩ := bnd_ok h
  have k3 := parts_ok (Q := OutOK) (fun ts a h hn => publish_ok h hn) _ _ _ x3 h3 k2.2.2 (by simp) (by simp)
  unfold lastP at h
  split at h
  · cases h
  · split at h
    · cases h
    · split at h
      · cases h
      · injection h with h
        subst h
        exact ⟨k1.1, k2.1, k3.1, k1.2.1, k2.2.1, k3.2.1⟩
theorem parse_ok {l : By} {f : Flw} (hl : l.length ≤ 1000000) (h : parseF l = .ok f) : FlwOK f := by
  obtain ⟨ts, h1, h⟩ := bnd_ok h
  have hg := tokens_good hl h1
  refine flow_ok h ⟨fun t ht => (hg.small t ht).2.2.2.2, ?_⟩
  unfold tokensL at h1
  cases hk : toksL (l.length + 1) l 0 0 with
  | error e => rw [hk] at h1; cases h1
  | ok us =>
    rw [hk] at h1
    simp only [Except.ok.injEq] at h1
    subst h1
    obtain ⟨h2, -⟩ := toks_good _ l 0 0 us l.length hk (by omega) (by omega)
    simp
    omega
end Go.Proofs.YtajkjhkjgibcfaaDoor

