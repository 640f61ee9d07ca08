import Derived.Test.YtemcpjflpggaeaaDoorDskJ
import Derived.Test.YtemcpjflpggaeaaDoorSumB
set_option linter.unusedSimpArgs false
set_option linter.unusedVariables false
namespace Go.Proofs.YtemcpjflpggaeaaDoor.Dk
open Go.RowKit

theorem sumL_len (t : Bs) : (sumL t).length = 32 := by
  simp [sumL, tell, Go.Proofs.YtemcpjflpggaeaaDoor.St.list, bytes4]
/-- A record as it is cut into pieces. -/
def packL (t : Bs) : Bs := sumL t ++ ([UInt8.ofNat (t.length / 256), UInt8.ofNat (t.length % 256)] ++ t)
theorem packL_len (t : Bs) : (packL t).length = 34 + t.length := by simp [packL, sumL_len]; omega
def nsec (t : Bs) : Nat := (34 + t.length + 62) / 63
theorem nsec_pos (t : Bs) : 1 ≤ nsec t := by unfold nsec; omega
/-- .. with 0 behind it up to a whole number of pieces. -/
def fillL (t : Bs) : Bs := packL t ++ List.replicate (63 * nsec t - (packL t).length) 0
theorem fillL_len (t : Bs) : (fillL t).length = 63 * nsec t := by
  simp only [fillL, List.length_append, List.length_replicate, packL_len]
  unfold nsec
  omega
def markB (i : Nat) : UInt8 := if i = 0 then 72 else 66
def chunkL (t : Bs) (i : Nat) : Bs := ((packL t).drop (63 * i)).take 63
/-- What lies in a record's sectors. -/
def onD (t : Bs) (i : Nat) : Bs := markB i :: ((fillL t).drop (63 * i)).take 63
theorem pad_chunk (t : Bs) (i : Nat) (h : i < nsec t) : pad (markB i :: chunkL t i) = onD t i := by
  have hl := packL_len t
  have hf := fillL_len t
  have hn : 63 * nsec t < 34 + t.length + 63 := by unfold nsec; omega
  have hn2 : 34 + t.length ≤ 63 * nsec t := by unfold nsec; omega
  unfold pad onD chunkL
  rw [List.cons_append]
  congr 1
  refine List.ext_getElem ?_ fun j h1 h2 => ?_
  · simp only [List.length_append, List.length_take, List.length_drop, List.length_replicate, List.length_cons, hl, hf]
    have : 63 * i + 63 ≤ 63 * nsec t := by omega
    omega
  · simp only [List.length_take, List.length_drop, hf] at h2
    rw [List.getElem_append]
    split
    · rename_i h3
      simp only [List.length_take, List.length_drop, hl] at h3
      simp only [List.getElem_take, List.getElem_drop]
      unfold fillL
      rw [List.getElem_append_left (by rw [hl]; omega)]
    · rename_i h3
      simp only [List.length_take, List.length_drop, hl] at h3
      simp only [List.getElem_take, List.getElem_drop, List.getElem_replicate]
      unfold fillL
      rw [List.getElem_append_right (by rw [hl]; omega)]
      simp
theorem onD_len (t : Bs) (i : Nat) (h : i < nsec t) : (onD t i).length = 64 := by
  have hf := fillL_len t
  simp only [onD, List.length_cons, List.length_take, List.length_drop, hf]
  have : 63 * i + 63 ≤ 63 * nsec t := by omega
  omega
/-- Reading: what lies behind a mark; a record's further pieces; a record. -/
def pieceL (rd : Nat → Option Bs) (at_ : Nat) (mk : UInt8) : Option Bs := match rd at_ with
  | some (c :: r) => if c = mk then some r else none
  | _ => none
def bodyL (rd : Nat → Option Bs) : Nat → Nat → Bs → Nat → Option Bs
  | 0, _, p, n => if p.length < n then none else some p
  | f + 1, a, p, n => if p.length < n then (match pieceL rd (a + 1) 66 with | some q => bodyL rd f (a + 1) (p ++ q) n | none => none) else some p
def lenH (h : Bs) : Nat := (h[32]?.getD 0).toNat * 256 + (h[33]?.getD 0).toNat
def recL (rd : Nat → Option Bs) (a : Nat) : Option Bs := match pieceL rd a 72 with
  | none => none
  | some h => match bodyL rd (34 + lenH h) a h (34 + lenH h) with
    | none => none
    | some p => if sumL ((p.drop 34).take (lenH h)) = h.take 32 then some ((p.drop 34).take (lenH h)) else none
/-- All records from a sector on, as far as they are whole, each once: they, and where they end. -/
def allL (rd : Nat → Option Bs) : Nat → Nat → List Bs → List Bs × Nat
  | 0, a, acc => (acc, a)
  | f + 1, a, acc => match recL rd a with
    | some t => if sumL t ∈ acc.map sumL then (acc, a) else allL rd f (a + nsec t) (acc ++ [t])
    | none => (acc, a)
theorem fill_head (t : Bs) (h : t.length < 65536) : lenH ((fillL t).take 63) = t.length ∧ ((fillL t).take 63).take 32 = sumL t := by
  have hs := sumL_len t
  have e : fillL t = sumL t ++ (UInt8.ofNat (t.length / 256) :: UInt8.ofNat (t.length % 256) :: (t ++ List.replicate (63 * nsec t - (packL t).length) 0)) := by simp [fillL, packL]
  constructor
  · unfold lenH
    rw [List.getElem?_take, List.getElem?_take, if_pos (by decide), if_pos (by decide), e, List.getElem?_append_right (by omega), List.getElem?_append_right (by omega), hs]
    simp
    omega
  · rw [List.take_take, show min 32 63 = 32 by decide, e, List.take_append_of_le_length (by omega), List.take_of_length_le (by omega)]
theorem fill_text (t : Bs) : ((fillL t).drop 34).take t.length = t := by
  have hs := sumL_len t
  have e : fillL t = (sumL t ++ [UInt8.ofNat (t.length / 256), UInt8.ofNat (t.length % 256)]) ++ (t ++ List.replicate (63 * nsec t - (packL t).length) 0) := by simp [fillL, packL]
  rw [e, List.drop_append_of_le_length (by simp [hs]), List.drop_of_length_le (by simp [hs]), List.nil_append, List.take_append_of_le_length (Nat.le_refl _), List.take_of_length_le (Nat.le_refl _)]
theorem piece_on {rd : Nat → Option Bs} {t : Bs} {a i : Nat} (h : rd a = some (onD t i)) : pieceL rd a (markB i) = some (((fillL t).drop (63 * i)).take 63) := by
  simp [pieceL, h, onD]
theorem piece_zero {rd : Nat → Option Bs} {a : Nat} {mk : UInt8} (h : rd a = some zeros ∨ rd a = none) (hm : mk ≠ 0) : pieceL rd a mk = none := by
  rcases h with h | h
  · have : zeros = 0 :: List.replicate 63 0 := rfl
    simp [pieceL, h, this]
    exact fun e => hm e.symm
  · simp [pieceL, h]
/-- A record whose sectors are each as they were written, or 0: it, or none. -/
theorem body_part {rd : Nat → Option Bs} {t : Bs} {a : Nat} (hg : ∀ i, i < nsec t → rd (a + i) = some (onD t i) ∨ rd (a + i) = some zeros ∨ rd (a + i) = none) : ∀ (f i : Nat), 1 ≤ i → i ≤ nsec t → nsec t - i ≤ f →
    (bodyL rd f (a + (i - 1)) ((fillL t).take (63 * i)) (34 + t.length) = some (fillL t) ∨ (bodyL rd f (a + (i - 1)) ((fillL t).take (63 * i)) (34 + t.length) = none ∧ ∃ j, i ≤ j ∧ j < nsec t ∧ rd (a + j) ≠ some (onD t j)))
  | f, i, h1, h2, h3 => by
    have hf := fillL_len t
    have hn : 63 * nsec t < 34 + t.length + 63 := by unfold nsec; omega
    have hn2 : 34 + t.length ≤ 63 * nsec t := by unfold nsec; omega
    have hl : ((fillL t).take (63 * i)).length = 63 * i := by rw [List.length_take, hf]; omega
    by_cases e : i = nsec t
    · left
      have hfull : (fillL t).take (63 * i) = fillL t := List.take_of_length_le (by rw [hf, e]; exact Nat.le_refl _)
      cases f with
      | zero => rw [bodyL, if_neg (by rw [hl, e]; omega), hfull]
      | succ f => rw [bodyL, if_neg (by rw [hl, e]; omega), hfull]
    · have hi : i < nsec t := by omega
      cases f with
      | zero => omega
      | succ f =>
        rw [bodyL, if_pos (by rw [hl]; omega), show a + (i - 1) + 1 = a + i by omega]
        have hm : markB i = 66 := by simp [markB]; omega
        rcases hg i hi with q | q
        · have hp := piece_on q
          rw [hm] at hp
          rw [hp]
          have ht : (fillL t).take (63 * i) ++ ((fillL t).drop (63 * i)).take 63 = (fillL t).take (63 * (i + 1)) := by
            rw [show 63 * (i + 1) = 63 * i + 63 by omega, List.take_add]
          show bodyL rd f (a + i) (_ ++ _) _ = _ ∨ (bodyL rd f (a + i) (_ ++ _) _ = _ ∧ _)
          rw [ht]
          have ih := body_part hg f (i + 1) (by omega) (by omega) (by omega)
          rw [show a + (i + 1 - 1) = a + i by omega] at ih
          rcases ih with ih | ⟨ih, j, hj1, hj2, hj3⟩
          · exact Or.inl ih
          · exact Or.inr ⟨ih, j, by omega, hj2, hj3⟩
        · rw [piece_zero q (by decide)]
          refine Or.inr ⟨rfl, i, Nat.le_refl _, hi, ?_⟩
          intro q2
          rcases q with q | q
          · rw [q] at q2
            have h0 := congrArg (fun o : Option Bs => o.bind List.head?) q2
            simp [zeros, onD, hm] at h0
          · rw [q] at q2; cases q2
theorem rec_part {rd : Nat → Option Bs} {t : Bs} {a : Nat} (ht : t.length < 65536) (hg : ∀ i, i < nsec t → rd (a + i) = some (onD t i) ∨ rd (a + i) = some zeros ∨ rd (a + i) = none) : recL rd a = some t ∨ (recL rd a = none ∧ ∃ j, j < nsec t ∧ rd (a + j) ≠ some (onD t j)) := by
  have hp := nsec_pos t
  obtain ⟨hh1, hh2⟩ := fill_head t ht
  have hm : markB 0 = 72 := rfl
  rcases hg 0 hp with q | q
  · have h0 := piece_on q
    rw [hm, Nat.mul_zero, List.drop_zero] at h0
    rw [Nat.add_zero] at h0
    unfold recL
    rw [h0]
    simp only [hh1, hh2]
    have hb := body_part hg (34 + t.length) 1 (Nat.le_refl _) hp (by unfold nsec; omega)
    rw [show a + (1 - 1) = a by omega, show 63 * 1 = 63 by omega] at hb
    rcases hb with hb | ⟨hb, j, -, hj2, hj3⟩
    · left
      rw [hb]
      simp only [fill_text, if_true]
    · right
      rw [hb]
      exact ⟨rfl, j, hj2, hj3⟩
  · right
    rw [Nat.add_zero] at q
    refine ⟨by unfold recL; rw [piece_zero q (by decide)], 0, hp, ?_⟩
    rw [Nat.add_zero]
    intro q2
    rcases q with q | q
    · rw [q] at q2
      have h0 := congrArg (fun o : Option Bs => o.bind List.head?) q2
      simp [zeros, onD, hm] at h0
    · rw [q] at q2; cases q2
theorem rec_read {rd : Nat → Option Bs} {t : Bs} {a : Nat} (ht : t.length < 65536) (hg : ∀ i, i < nsec t → rd (a + i) = some (onD t i)) : recL rd a = some t := by
  rcases rec_part ht (fun i hi => Or.inl (hg i hi)) with h | ⟨-, j, hj, hn⟩
  · exact h
  · exact absurd (hg j hj) hn
theorem rec_none {rd : Nat → Option Bs} {a : Nat} (h : rd a = some zeros ∨ rd a = none) : recL rd a = none := by unfold recL; rw [piece_zero h (by decide)]
/-- Records that lie one behind the other. -/
def LaidL (rd : Nat → Option Bs) : Nat → List Bs → Nat → Prop
  | a, [], e => a = e
  | a, t :: r, e => (∀ i, i < nsec t → rd (a + i) = some (onD t i)) ∧ LaidL rd (a + nsec t) r e
theorem all_laid {rd : Nat → Option Bs} : ∀ (ts : List Bs) (f a e : Nat) (acc : List Bs), LaidL rd a ts e → (∀ t ∈ ts, t.length < 65536) → ((acc ++ ts).map sumL).Nodup → ts.length ≤ f → allL rd f a acc = allL rd (f - ts.length) e (acc ++ ts)
  | [], f, a, e, acc, h, _, _, _ => by
    have : a = e := h
    subst this
    simp
  | t :: r, 0, a, e, acc, _, _, _, hf => by simp at hf
  | t :: r, f + 1, a, e, acc, ⟨h1, h2⟩, hl, hn, hf => by
    have hr := rec_read (hl t List.mem_cons_self) h1
    have hno : ¬ sumL t ∈ acc.map sumL := by
      intro hm
      rw [List.map_append, List.nodup_append] at hn
      exact hn.2.2 _ hm _ (by simp) rfl
    rw [allL, hr]
    simp only
    rw [if_neg hno, all_laid r f (a + nsec t) e (acc ++ [t]) h2 (fun u hu => hl u (List.mem_cons_of_mem _ hu)) (by simpa using hn) (by simpa using hf)]
    simp
end Go.Proofs.YtemcpjflpggaeaaDoor.Dk
