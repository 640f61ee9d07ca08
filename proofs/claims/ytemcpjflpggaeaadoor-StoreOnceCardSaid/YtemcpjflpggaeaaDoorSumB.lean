import Derived.Test.YtemcpjflpggaeaaDoorSumA
set_option linter.unusedSimpArgs false
set_option linter.unusedVariables false
namespace Go.Proofs.YtemcpjflpggaeaaDoor

/-- A number's digits of 2^16, the least first. -/
def val : List Nat → Nat
  | [] => 0
  | d :: r => d + 65536 * val r
def Digs (l : List Nat) : Prop := ∀ d ∈ l, d < 65536
theorem val_append (a b : List Nat) : val (a ++ b) = val a + 65536 ^ a.length * val b := by
  induction a with
  | nil => simp [val]
  | cons d r ih => simp only [List.cons_append, val, ih, List.length_cons, Nat.pow_succ]; rw [Nat.mul_add, ← Nat.mul_assoc, Nat.mul_comm 65536 (65536 ^ r.length)]; omega
theorem val_zeros (n : Nat) : val (List.replicate n 0) = 0 := by
  induction n with
  | zero => rfl
  | succ n ih => simp [List.replicate_succ, val, ih]
theorem val_lt {l : List Nat} (h : Digs l) : val l < 65536 ^ l.length := by
  induction l with
  | nil => simp [val]
  | cons d r ih =>
    have h1 := ih (fun x hx => h x (List.mem_cons_of_mem _ hx))
    have h2 := h d (List.mem_cons_self ..)
    simp only [val, List.length_cons, Nat.pow_succ]
    omega
theorem Digs.snoc {l : List Nat} {d : Nat} (h : Digs l) (hd : d < 65536) : Digs (l ++ [d]) := by
  intro x hx
  rcases List.mem_append.1 hx with hx | hx
  · exact h x hx
  · simp at hx; omega
theorem Digs.pad {l : List Nat} (h : Digs l) (n : Nat) : Digs (l ++ List.replicate n 0) := by
  intro x hx
  rcases List.mem_append.1 hx with hx | hx
  · exact h x hx
  · have := (List.mem_replicate.1 hx).2; omega
theorem val_pad (l : List Nat) (n : Nat) : val (l ++ List.replicate n 0) = val l := by
  rw [val_append, val_zeros]; simp
theorem Digs.take {l : List Nat} (h : Digs l) (n : Nat) : Digs (l.take n) := fun x hx => h x (List.mem_of_mem_take hx)
theorem val_split (l : List Nat) (i : Nat) (hi : i < l.length) : val l = val (l.take i) + 65536 ^ i * (l[i] + 65536 * val (l.drop (i + 1))) := by
  have e : l = l.take i ++ (l[i] :: l.drop (i + 1)) := by rw [List.getElem_cons_drop, List.take_append_drop]
  have hl : (l.take i).length = i := by rw [List.length_take]; omega
  calc val l = val (l.take i ++ (l[i] :: l.drop (i + 1))) := by rw [← e]
    _ = _ := by rw [val_append, hl, val]
theorem val_above {v w : List Nat} (hv : Digs v) (hw : Digs w) (i : Nat) (h1 : i < v.length) (h2 : i < w.length) (ht : v.drop (i + 1) = w.drop (i + 1)) (hlt : w[i] < v[i]) : val w < val v := by
  rw [val_split v i h1, val_split w i h2, ht]
  have a := val_lt (hw.take i)
  rw [List.length_take, Nat.min_eq_left (by omega)] at a
  generalize val (List.drop (i + 1) w) = T
  have hm : 65536 ^ i * (w[i] + 65536 * T) + 65536 ^ i ≤ 65536 ^ i * (v[i] + 65536 * T) := by
    rw [← Nat.mul_succ]
    exact Nat.mul_le_mul_left _ (by omega)
  omega

/-- The primes below a number, one by one. -/
def prStep (l : List Nat) (k : Nat) : List Nat := if l.all (fun p => !(k % p == 0)) then l ++ [k] else l
def prs : Nat → List Nat
  | 0 => []
  | 1 => []
  | 2 => []
  | k + 1 => prStep (prs k) k
theorem prs_succ (k : Nat) (h : 2 ≤ k) : prs (k + 1) = prStep (prs k) k := by
  match k, h with
  | k + 2, _ => rfl
theorem prStep_len (l : List Nat) (k : Nat) : l.length ≤ (prStep l k).length := by
  unfold prStep; split <;> simp
theorem prStep_len1 (l : List Nat) (k : Nat) : (prStep l k).length ≤ l.length + 1 := by
  unfold prStep; split <;> simp
theorem prs_mono (k : Nat) : ∀ n, (prs k).length ≤ (prs (k + n)).length
  | 0 => Nat.le_refl _
  | n + 1 => by
    refine Nat.le_trans (prs_mono k n) ?_
    by_cases h : 2 ≤ k + n
    · rw [← Nat.add_assoc, prs_succ _ h]; exact prStep_len _ _
    · have : k + n = 0 ∨ k + n = 1 := by omega
      rcases this with h | h <;> rw [h] <;> exact Nat.zero_le _
theorem prs_pos : ∀ k, ∀ p ∈ prs k, 2 ≤ p ∧ p < k
  | 0, p, h => by simp [prs] at h
  | 1, p, h => by simp [prs] at h
  | 2, p, h => by simp [prs] at h
  | k + 3, p, h => by
    rw [prs_succ (k + 2) (by omega)] at h
    unfold prStep at h
    split at h
    · rcases List.mem_append.1 h with h | h
      · have := prs_pos (k + 2) p h; omega
      · simp at h; omega
    · have := prs_pos (k + 2) p h; omega
def pList : List Nat := [2, 3, 5, 7, 11, 13, 17, 19, 23, 29, 31, 37, 41, 43, 47, 53, 59, 61, 67, 71, 73, 79, 83, 89, 97, 101, 103, 107, 109, 113, 127, 131, 137, 139, 149, 151, 157, 163, 167, 173, 179, 181, 191, 193, 197, 199, 211, 223, 227, 229, 233, 239, 241, 251, 257, 263, 269, 271, 277, 281, 283, 293, 307, 311]
theorem prs_312 : prs 312 = pList := by decide +kernel
theorem prs_311 : (prs 311).length = 63 := by decide +kernel
theorem pList_len : pList.length = 64 := rfl
theorem prs_end {k : Nat} (h : k ≤ 312) (hl : 64 ≤ (prs k).length) : k = 312 := by
  by_cases hk : k = 312
  · exact hk
  · exfalso
    have := prs_mono k (311 - k)
    rw [show k + (311 - k) = 311 by omega, prs_311] at this
    omega
theorem prs_more {k : Nat} (h : k ≤ 312) (hl : (prs k).length < 64) : k < 312 := by
  by_cases hk : k = 312
  · subst hk; rw [prs_312, pList_len] at hl; omega
  · omega
theorem pList_lt : ∀ p ∈ pList, 2 ≤ p ∧ p ≤ 311 := by decide

/-- The roots: whole part and 32 bits. -/
def whole3 (p : Nat) : Nat := if p < 8 then 1 else if p < 27 then 2 else if p < 64 then 3 else if p < 125 then 4 else if p < 216 then 5 else 6
def whole2 (p : Nat) : Nat := if p < 4 then 1 else if p < 9 then 2 else if p < 16 then 3 else 4
def r3 (i : Nat) : Nat := whole3 (pList[i]?.getD 0) * 4294967296 + (kList[i]?.getD 0).toNat
def r2 (i : Nat) : Nat := whole2 (pList[i]?.getD 0) * 4294967296 + (start.list[i]?.getD 0).toNat
theorem r3_is : ∀ i, i < 64 → r3 i ^ 3 ≤ pList[i]?.getD 0 * 2 ^ (32 * 3) ∧ pList[i]?.getD 0 * 2 ^ (32 * 3) < (r3 i + 1) ^ 3 := by decide +kernel
theorem r2_is : ∀ i, i < 8 → r2 i ^ 2 ≤ pList[i]?.getD 0 * 2 ^ (32 * 2) ∧ pList[i]?.getD 0 * 2 ^ (32 * 2) < (r2 i + 1) ^ 2 := by decide +kernel
theorem r3_mod (i : Nat) : r3 i % 4294967296 = (kList[i]?.getD 0).toNat := by
  have := (kList[i]?.getD 0).isLt
  unfold r3; omega
theorem r2_mod (i : Nat) : r2 i % 4294967296 = (start.list[i]?.getD 0).toNat := by
  have := (start.list[i]?.getD 0).isLt
  unfold r2; omega
theorem root_one {a b k P : Nat} (ha : a ^ k ≤ P) (ha' : P < (a + 1) ^ k) (hb : b ^ k ≤ P) (hb' : P < (b + 1) ^ k) : a = b := by
  rcases Nat.lt_trichotomy a b with h | h | h
  · have := Nat.pow_le_pow_left (show a + 1 ≤ b from h) k; omega
  · exact h
  · have := Nat.pow_le_pow_left (show b + 1 ≤ a from h) k; omega

end Go.Proofs.YtemcpjflpggaeaaDoor
