import Derived.Test.YtkdbidcofamkcaaGreatDoorWalkR
set_option linter.unusedSimpArgs false
set_option linter.unusedVariables false
namespace Go.Proofs.YtkdbidcofamkcaaGreatDoor
open Go.RowKit

theorem bl_cons (a b : UInt8) (x y : List UInt8) : Op.bytesLess (a :: x) (b :: y) = true ↔ a < b ∨ (a = b ∧ Op.bytesLess x y = true) := by simp [Op.bytesLess]
theorem bl_asym : ∀ (l m : List UInt8), Op.bytesLess l m = true → Op.bytesLess m l = true → False
  | [], [], h, _ => by simp [Op.bytesLess] at h
  | [], _ :: _, _, h => by simp [Op.bytesLess] at h
  | _ :: _, [], h, _ => by simp [Op.bytesLess] at h
  | c :: r, d :: q, h, k => by
    rw [bl_cons] at h k
    rcases h with h | ⟨rfl, h⟩
    · rcases k with k | ⟨rfl, k⟩
      · exact absurd (UInt8.lt_trans h k) (UInt8.lt_irrefl _)
      · exact UInt8.lt_irrefl _ h
    · rcases k with k | ⟨-, k⟩
      · exact UInt8.lt_irrefl _ k
      · exact bl_asym r q h k
theorem bl_tri : ∀ (l m : List UInt8), Op.bytesLess l m = false → Op.bytesLess m l = false → l = m
  | [], [], _, _ => rfl
  | [], _ :: _, h, _ => by simp [Op.bytesLess] at h
  | _ :: _, [], _, h => by simp [Op.bytesLess] at h
  | c :: r, d :: q, h, k => by
    have h' : ¬ (c < d ∨ (c = d ∧ Op.bytesLess r q = true)) := fun e => by rw [(bl_cons c d r q).2 e] at h; simp at h
    have k' : ¬ (d < c ∨ (d = c ∧ Op.bytesLess q r = true)) := fun e => by rw [(bl_cons d c q r).2 e] at k; simp at k
    have hcd : c = d := by
      apply UInt8.toNat_inj.1
      have h1 : ¬ c.toNat < d.toNat := fun e => h' (Or.inl (UInt8.lt_iff_toNat_lt.2 e))
      have h2 : ¬ d.toNat < c.toNat := fun e => k' (Or.inl (UInt8.lt_iff_toNat_lt.2 e))
      omega
    subst hcd
    rw [bl_tri r q (bool_false fun e => h' (Or.inr ⟨rfl, e⟩)) (bool_false fun e => k' (Or.inr ⟨rfl, e⟩))]
theorem bl_trans : ∀ (l m n : List UInt8), Op.bytesLess l m = true → Op.bytesLess m n = true → Op.bytesLess l n = true
  | [], [], _, h, _ => by simp [Op.bytesLess] at h
  | _ :: _, [], _, h, _ => by simp [Op.bytesLess] at h
  | _, _ :: _, [], _, h => by simp [Op.bytesLess] at h
  | [], _ :: _, _ :: _, _, _ => by simp [Op.bytesLess]
  | a :: x, b :: y, c :: z, h, k => by
    rw [bl_cons] at h k ⊢
    rcases h with h | ⟨rfl, h⟩
    · rcases k with k | ⟨rfl, k⟩
      · exact Or.inl (UInt8.lt_trans h k)
      · exact Or.inl h
    · rcases k with k | ⟨rfl, k⟩
      · exact Or.inl k
      · exact Or.inr ⟨rfl, bl_trans x y z h k⟩

theorem pu_app : ∀ (x y : List UInt8) (acc u : Nat), Lib.parseUint10 acc x = .ok u → Lib.parseUint10 acc (x ++ y) = Lib.parseUint10 u y
  | [], y, acc, u, h => by simp only [Lib.parseUint10] at h; injection h with h; rw [h]; rfl
  | c :: r, y, acc, u, h => by
    simp only [Lib.parseUint10, List.cons_append] at h ⊢
    split at h
    · split at h
      · cases h
      · split at h
        · cases h
        · rename_i h1 h2 h3
          rw [if_pos h1, if_neg h2, if_neg h3]
          exact pu_app r y _ u h
    · cases h
theorem dig_toNat (d : Nat) (h : d < 10) : (UInt8.ofNat (48 + d)).toNat = 48 + d := by simp; omega
theorem pu_dec (u : Nat) : u < 1000000000000 → Lib.parseUint10 0 (Lib.decDigits u) = .ok u := by
  induction u using Nat.strongRecOn with
  | _ u ih =>
    intro hu
    rw [Lib.decDigits]
    split
    · rename_i h
      simp only [Lib.parseUint10, dig_toNat u h]
      rw [if_pos (by omega), if_neg (by omega), if_neg (by omega)]
      congr 1
      omega
    · rename_i h
      rw [pu_app _ _ 0 (u / 10) (ih (u / 10) (by omega) (by omega))]
      simp only [Lib.parseUint10, dig_toNat (u % 10) (Nat.mod_lt _ (by omega))]
      rw [if_pos (by omega), if_neg (by omega), if_neg (by omega)]
      congr 1
      omega
theorem dec_ne (u : Nat) : Lib.decDigits u ≠ [] := by
  rw [Lib.decDigits]; split <;> simp
theorem dec_digits (u : Nat) : ∀ c ∈ Lib.decDigits u, 48 ≤ c.toNat ∧ c.toNat ≤ 57 := by
  induction u using Nat.strongRecOn with
  | _ u ih =>
    intro c hc
    rw [Lib.decDigits] at hc
    split at hc
    · rename_i h
      simp only [List.mem_cons, List.not_mem_nil, or_false] at hc
      rw [hc, dig_toNat u h]; omega
    · rename_i h
      rw [List.mem_append] at hc
      rcases hc with hc | hc
      · exact ih (u / 10) (by omega) c hc
      · simp only [List.mem_cons, List.not_mem_nil, or_false] at hc
        rw [hc, dig_toNat _ (Nat.mod_lt _ (by omega))]
        have := Nat.mod_lt u (show 0 < 10 by omega)
        omega

/-- A number that is written is read as it was. -/
theorem atoi_itoa (n : Int) (h0 : -1000000000 ≤ n) (h1 : n ≤ 1000000000) : Lib.atoiAll (Lib.itoa n) = .ok n := by
  unfold Lib.itoa
  split
  · rename_i hn
    have hne := dec_ne n.natAbs
    have hp : Lib.parseMag (Lib.decDigits n.natAbs) = .ok n.natAbs := by
      unfold Lib.parseMag; rw [if_neg hne]; exact pu_dec _ (by omega)
    have h45 : (45 : UInt8).toNat = 45 := rfl
    simp only [Lib.atoiAll, h45]
    rw [if_pos (Or.inr trivial), hp]
    simp only [not_true_eq_false, false_and, if_false, true_and, if_true]
    rw [if_neg (by omega)]
    congr 1
    omega
  · rename_i hn
    have hne := dec_ne n.toNat
    have hp : Lib.parseMag (Lib.decDigits n.toNat) = .ok n.toNat := by
      unfold Lib.parseMag; rw [if_neg hne]; exact pu_dec _ (by omega)
    have hd := dec_digits n.toNat
    cases hl : Lib.decDigits n.toNat with
    | nil => exact absurd hl hne
    | cons c r =>
      rw [hl] at hp hd
      have hc := hd c (by simp)
      simp only [Lib.atoiAll]
      rw [if_neg (by omega), hp]
      simp only
      rw [if_neg (by omega), if_neg (by omega), if_neg (by omega)]
      congr 1
      omega
theorem itoa_inj {n m : Int} (h0 : -1000000000 ≤ n) (h1 : n ≤ 1000000000) (k0 : -1000000000 ≤ m) (k1 : m ≤ 1000000000) (h : Lib.itoa n = Lib.itoa m) : n = m := by
  have a := atoi_itoa n h0 h1
  rw [h, atoi_itoa m k0 k1] at a
  injection a with a
  exact a.symm
theorem itoa_head (n : Int) : ∃ c r, Lib.itoa n = c :: r ∧ c ≠ 39 := by
  unfold Lib.itoa
  split
  · exact ⟨45, _, rfl, by decide⟩
  · have hne := dec_ne n.toNat
    have hd := dec_digits n.toNat
    cases hl : Lib.decDigits n.toNat with
    | nil => exact absurd hl hne
    | cons c r =>
      rw [hl] at hd
      have hc := hd c (by simp)
      exact ⟨c, r, rfl, fun e => by rw [e] at hc; exact absurd hc (by decide)⟩

theorem right_kind {k n : Int} {l : List UInt8} (h : rightValueB k n l = true) : (k = 1 ∧ l = []) ∨ (k = 2 ∧ n = 0) := by
  unfold rightValueB at h
  split at h
  · rename_i hk; simp at h; exact Or.inl ⟨hk, h.2.2⟩
  · split at h
    · rename_i hk; simp at h; exact Or.inr ⟨hk, h.2⟩
    · simp at h

/-- Values that are written alike are the same. -/
theorem valueL_inj {k n k' n' : Int} {l l' : List UInt8} (h : rightValueB k n l = true) (h' : rightValueB k' n' l' = true) (e : valueL k n l = valueL k' n' l') : k = k' ∧ n = n' ∧ l = l' := by
  have s1 := right_small h
  have s2 := right_small h'
  rcases right_kind h with ⟨rfl, rfl⟩ | ⟨rfl, rfl⟩
  · rcases right_kind h' with ⟨rfl, rfl⟩ | ⟨rfl, rfl⟩
    · simp only [valueL, if_true] at e
      exact ⟨rfl, itoa_inj s1.2.1 s1.2.2 s2.2.1 s2.2.2 e, rfl⟩
    · obtain ⟨c, r, hc, hne⟩ := itoa_head n
      simp [valueL, hc] at e
      exact absurd e.1 hne
  · rcases right_kind h' with ⟨rfl, rfl⟩ | ⟨rfl, rfl⟩
    · obtain ⟨c, r, hc, hne⟩ := itoa_head n'
      simp [valueL, hc] at e
      exact absurd e.1.symm hne
    · simp [valueL] at e
      exact ⟨rfl, rfl, e⟩

theorem less_asym {k n k' n' : Int} {l l' : List UInt8} (h : lessB k n l k' n' l' = true) : lessB k' n' l' k n l = false := by
  apply bool_false
  intro h'
  unfold lessB at h h'
  by_cases e : k = k'
  · subst e
    simp at h h'
    split at h
    · rename_i hk; simp [hk] at h'; omega
    · rename_i hk; simp [hk] at h'; exact bl_asym _ _ h h'
  · have e' : ¬ k' = k := fun x => e x.symm
    simp [e] at h; simp [e'] at h'; omega
theorem less_tri {k n k' n' : Int} {l l' : List UInt8} (g : rightValueB k n l = true) (g' : rightValueB k' n' l' = true) (h : lessB k n l k' n' l' = false) (h' : lessB k' n' l' k n l = false) : k = k' ∧ n = n' ∧ l = l' := by
  unfold lessB at h h'
  by_cases e : k = k'
  · subst e
    rcases right_kind g with ⟨rfl, rfl⟩ | ⟨rfl, rfl⟩
    · rcases right_kind g' with ⟨-, rfl⟩ | ⟨hk, -⟩
      · simp at h h'; exact ⟨rfl, by omega, rfl⟩
      · exact absurd hk (by decide)
    · rcases right_kind g' with ⟨hk, -⟩ | ⟨-, rfl⟩
      · exact absurd hk (by decide)
      · simp at h h'; exact ⟨rfl, rfl, bl_tri _ _ h h'⟩
  · have e' : ¬ k' = k := fun x => e x.symm
    simp [e] at h; simp [e'] at h'; omega
theorem less_irr {k n : Int} {l : List UInt8} : lessB k n l k n l = false := by
  apply bool_false
  intro h
  have := less_asym h
  rw [h] at this
  exact absurd this (by decide)
theorem less_trans {k n k' n' k'' n'' : Int} {l l' l'' : List UInt8} (h : lessB k n l k' n' l' = true) (h' : lessB k' n' l' k'' n'' l'' = true) : lessB k n l k'' n'' l'' = true := by
  unfold lessB at h h' ⊢
  by_cases e : k = k'
  · subst e
    by_cases e2 : k = k''
    · subst e2
      simp at h h' ⊢
      by_cases hk : k = 1
      · simp [hk] at h h' ⊢; omega
      · simp [hk] at h h' ⊢; exact bl_trans _ _ _ h h'
    · simp [e2] at h' ⊢; exact h'
  · by_cases e2 : k' = k''
    · subst e2
      simp [e] at h ⊢; exact h
    · simp [e] at h; simp [e2] at h'
      have : ¬ k = k'' := by omega
      simp [this]; omega
end Go.Proofs.YtkdbidcofamkcaaGreatDoor
