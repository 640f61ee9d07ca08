import Derived.Test.YtemcpjflpggaeaaDoorStoL
import Derived.Test.YtemcpjflpggaeaaDoorDskW
import Derived.Test.YtemcpjflpggaeaaDoorDskK
set_option linter.unusedSimpArgs false
set_option linter.unusedVariables false
namespace Go.Proofs.YtemcpjflpggaeaaDoor.Dk
open Go.RowKit Go.Maps

/-- Where a store lies on a disk: its records, and nothing else. -/
structure Inv (d : St) (ts : List Bs) (e : Nat) : Prop where
  ws : d.ws = []
  laid : LaidL (rdOf d) 2 ts e
  zero : ∀ k, e ≤ k → k < d.sure.length → d.read k = zeros
  cov : ∀ k, k < d.sure.length → d.read k = zeros ∨ ∃ t : Bs, t.length ≤ 300 ∧ ∃ i, i < nsec t ∧ d.read k = onD t i
  short : ∀ t ∈ ts, t.length ≤ 300
  once : (ts.map sumL).Nodup
  le : e ≤ d.sure.length
  two : 2 + ts.length ≤ e
theorem heads_of {d : St} (h : ∀ k, k < d.sure.length → d.read k = zeros ∨ ∃ t : Bs, t.length ≤ 300 ∧ ∃ i, i < nsec t ∧ d.read k = onD t i) : Heads d := by
  intro a q hp
  by_cases ha : a < d.sure.length
  · have hrd : rdOf d a = some (d.read a) := by simp [rdOf, ha]
    rcases h a ha with hz | ⟨t, ht, i, hi, ho⟩
    · rw [piece_zero (Or.inl (by rw [hrd, hz])) (by decide)] at hp
      cases hp
    · by_cases h0 : i = 0
      · subst h0
        have := piece_on (rd := rdOf d) (t := t) (a := a) (i := 0) (by rw [hrd, ho])
        have hm : markB 0 = 72 := rfl
        rw [hm, Nat.mul_zero, List.drop_zero] at this
        rw [this] at hp
        injection hp with hp
        rw [← hp, (fill_head t (by omega)).1]
        exact ht
      · have hm : markB i = 66 := by simp [markB, h0]
        unfold pieceL at hp
        rw [hrd, ho] at hp
        simp only [onD, hm] at hp
        rw [if_neg (by decide)] at hp
        cases hp
  · have hrd : rdOf d a = none := by simp [rdOf, ha]
    rw [piece_zero (Or.inr hrd) (by decide)] at hp
    cases hp
theorem Inv.heads {d : St} {ts : List Bs} {e : Nat} (h : Inv d ts e) : Heads d := heads_of h.cov
theorem Inv.all {d : St} {ts : List Bs} {e : Nat} (h : Inv d ts e) : allL (rdOf d) d.sure.length 2 [] = (ts, e) := by
  have h2 := h.two
  have hl := h.le
  rw [all_laid ts d.sure.length 2 e [] h.laid (fun t ht => by have := h.short t ht; omega) (by simpa using h.once) (by omega), List.nil_append]
  have hn : recL (rdOf d) e = none := by
    refine rec_none ?_
    by_cases q : e < d.sure.length
    · exact Or.inl (by simp [rdOf, q, h.zero e (Nat.le_refl _) q])
    · exact Or.inr (by simp [rdOf, q])
  cases d.sure.length - ts.length with
  | zero => rfl
  | succ f => rw [allL, hn]
theorem read_burnt (d : St) (k : Nat) : d.burnt.read k = d.read k := rfl
theorem read_wrN (d : St) (t : Bs) (e : Nat) : ∀ (j : Nat), j ≤ nsec t → ∀ k, (wrN d t e j).read k = if e ≤ k ∧ k < e + j then onD t (k - e) else d.read k
  | 0, _, k => by
    rw [if_neg (by omega)]
    rfl
  | j + 1, hj, k => by
    have ih := read_wrN d t e j (by omega) k
    show ((wrN d t e j).burnt.wrote (e + j) (markB j :: chunkL t j)).read k = _
    by_cases q : k = e + j
    · subst q
      rw [read_wrote_same, pad_chunk t j (by omega), if_pos (by omega), show e + j - e = j by omega]
    · rw [read_wrote_other _ _ q, read_burnt, ih]
      by_cases q2 : e ≤ k ∧ k < e + j
      · rw [if_pos q2, if_pos (by omega)]
      · rw [if_neg q2, if_neg (by omega)]
theorem rd_congr {rd rd' : Nat → Option Bs} : ∀ (ts : List Bs) (a e : Nat), LaidL rd a ts e → (∀ k, a ≤ k → k < e → rd' k = rd k) → LaidL rd' a ts e
  | [], a, e, h, _ => h
  | t :: r, a, e, ⟨h1, h2⟩, hc => by
    have hle : ∀ (ts : List Bs) (a e : Nat), LaidL rd a ts e → a ≤ e := by
      intro ts
      induction ts with
      | nil => intro a e h; exact Nat.le_of_eq h
      | cons t r ih => intro a e h; have := ih _ _ h.2; omega
    have hl := hle r _ _ h2
    exact ⟨fun i hi => by rw [hc _ (by omega) (by omega)]; exact h1 i hi, rd_congr r _ _ h2 (fun k h1 h2 => hc k (by omega) h2)⟩
theorem laid_snoc {rd : Nat → Option Bs} (t : Bs) : ∀ (ts : List Bs) (a e : Nat), LaidL rd a ts e → (∀ i, i < nsec t → rd (e + i) = some (onD t i)) → LaidL rd a (ts ++ [t]) (e + nsec t)
  | [], a, e, h, ht => by
    have : a = e := h
    subst this
    exact ⟨ht, rfl⟩
  | u :: r, a, e, ⟨h1, h2⟩, ht => ⟨h1, laid_snoc t r _ _ h2 ht⟩
/-- A record more. -/
theorem Inv.put {d d' : St} {ts : List Bs} {e : Nat} (h : Inv d ts e) (t : Bs) (ht : t.length ≤ 300) (hn : sumL t ∉ ts.map sumL) (hr : e + nsec t ≤ d.sure.length) (hl : d'.sure.length = d.sure.length) (hw : d'.ws = []) (hrd : ∀ k, k < d.sure.length → d'.read k = if e ≤ k ∧ k < e + nsec t then onD t (k - e) else d.read k) : Inv d' (ts ++ [t]) (e + nsec t) := by
  have hrd' : ∀ k, rdOf d' k = if e ≤ k ∧ k < e + nsec t then some (onD t (k - e)) else rdOf d k := fun k => by
    unfold rdOf
    rw [hl]
    by_cases q : k < d.sure.length
    · rw [if_pos q, hrd k q]
      split
      · rfl
      · rfl
    · rw [if_neg q, if_neg (by omega), if_neg q]
  have h2 := h.two
  have hp := nsec_pos t
  refine ⟨hw, ?_, ?_, ?_, ?_, ?_, by rw [hl]; exact hr, by rw [List.length_append, List.length_singleton]; omega⟩
  · refine laid_snoc t ts 2 e (rd_congr ts 2 e h.laid (fun k _ hk => by rw [hrd', if_neg (by omega)])) (fun i hi => ?_)
    rw [hrd', if_pos (by omega), show e + i - e = i by omega]
  · intro k hk1 hk2
    rw [hl] at hk2
    rw [hrd k hk2, if_neg (by omega)]
    exact h.zero k (by omega) hk2
  · intro k hk
    rw [hl] at hk
    rw [hrd k hk]
    by_cases q : e ≤ k ∧ k < e + nsec t
    · rw [if_pos q]
      exact Or.inr ⟨t, ht, k - e, by omega, rfl⟩
    · rw [if_neg q]
      exact h.cov k hk
  · intro u hu
    rcases List.mem_append.1 hu with hu | hu
    · exact h.short u hu
    · rw [List.mem_singleton.1 hu]; exact ht
  · rw [List.map_append, List.nodup_append]
    refine ⟨h.once, by simp, fun x hx y hy => ?_⟩
    simp at hy
    subst hy
    exact fun q => hn (q ▸ hx)
theorem inv_new (n : Nat) (h : 8 ≤ n) : Inv (newD n) [] 2 := by
  have hz : ∀ k, k < n → (newD n).read k = zeros := fun k hk => by simp [newD, St.read, lastL, hk]
  have hl : (newD n).sure.length = n := by simp [newD]
  refine ⟨rfl, rfl, fun k _ hk => hz k (hl ▸ hk), fun k hk => Or.inl (hz k (hl ▸ hk)), by simp, by simp, by rw [hl]; omega, by simp⟩
theorem read_settled (d : St) (k : Nat) (h : k < d.sure.length) : (d.settled allK).read k = d.read k := by
  have := settle_read d.ws 0 d.sure k h
  simp only [St.read, St.settled, lastL, Option.getD_none]
  exact this
theorem Inv.putted {d : St} {ts : List Bs} {e : Nat} (h : Inv d ts e) (t : Bs) (ht : t.length ≤ 300) (hn : sumL t ∉ ts.map sumL) (hr : e + nsec t ≤ d.sure.length) : Inv ((wrN d t e (nsec t)).burnt.settled allK) (ts ++ [t]) (e + nsec t) := by
  have hs : (wrN d t e (nsec t)).burnt.sure = d.sure := wrN_sure d t e (nsec t)
  have hl : ((wrN d t e (nsec t)).burnt.settled allK).sure.length = d.sure.length := by
    show (settleL allK 0 (wrN d t e (nsec t)).burnt.sure _).length = _
    rw [settle_len, hs]
  refine h.put t ht hn hr hl rfl (fun k hk => ?_)
  rw [read_settled _ k (by rw [hs]; exact hk), read_burnt, read_wrN d t e (nsec t) (Nat.le_refl _) k]
/-- What a crash leaves of a sector. -/
theorem settle_at2 (kept : Nat → Bool) : ∀ (ws : List (Nat × Bs)) (i : Nat) (s : List Bs) (k : Nat), k < s.length → (settleL kept i s ws)[k]? = s[k]? ∨ ∃ x ∈ ws, x.1 = k ∧ (settleL kept i s ws)[k]? = some x.2
  | [], i, s, k, hk => Or.inl rfl
  | x :: r, i, s, k, hk => by
    rw [settleL]
    have ih := settle_at2 kept r (i + 1) (if kept i then s.set x.1 x.2 else s) k (by split <;> simpa using hk)
    rcases ih with ih | ⟨y, hy, h1, h2⟩
    · rw [ih]
      split
      · by_cases e : x.1 = k
        · exact Or.inr ⟨x, by simp, e, by rw [e]; simp [hk]⟩
        · exact Or.inl (by rw [List.getElem?_set_ne e])
      · exact Or.inl rfl
    · exact Or.inr ⟨y, by simp [hy], h1, h2⟩
theorem wrN_mem (d : St) (t : Bs) (e : Nat) (hw : d.ws = []) : ∀ (j : Nat), j ≤ nsec t → ∀ x ∈ (wrN d t e j).ws, ∃ i, i < j ∧ x.1 = e + i ∧ x.2 = onD t i
  | 0, _, x, hx => by
    have : x ∈ d.ws := hx
    rw [hw] at this
    cases this
  | j + 1, hj, x, hx => by
    rcases List.mem_append.1 (show x ∈ (wrN d t e j).ws ++ [(e + j, pad (markB j :: chunkL t j))] from hx) with hx | hx
    · obtain ⟨i, h1, h2, h3⟩ := wrN_mem d t e hw j (by omega) x hx
      exact ⟨i, by omega, h2, h3⟩
    · rw [List.mem_singleton.1 hx]
      exact ⟨j, by omega, rfl, pad_chunk t j (by omega)⟩
/-- A disk behind a crash: each sector as it was, or as the last record's was written. -/
theorem crash_read {d : St} {ts : List Bs} {e : Nat} (h : Inv d ts e) (t : Bs) (j : Nat) (hj : j ≤ nsec t) (hr : e + nsec t ≤ d.sure.length) (kept : Nat → Bool) (k : Nat) (hk : k < d.sure.length) :
    (⟨((wrN d t e j).burnt.settled kept).sure, [], -1⟩ : St).read k = d.read k ∨ (∃ i, i < nsec t ∧ k = e + i ∧ (⟨((wrN d t e j).burnt.settled kept).sure, [], -1⟩ : St).read k = onD t i) := by
  have hs : (wrN d t e j).burnt.sure = d.sure := wrN_sure d t e j
  have hd : d.read k = d.sure[k]?.getD [] := by simp [St.read, h.ws, lastL]
  have hr2 : (⟨((wrN d t e j).burnt.settled kept).sure, [], -1⟩ : St).read k = (settleL kept 0 d.sure (wrN d t e j).ws)[k]?.getD [] := by
    simp only [St.read, lastL, Option.getD_none, St.settled]
    rw [hs]
    rfl
  rw [hr2, hd]
  rcases settle_at2 kept (wrN d t e j).ws 0 d.sure k hk with q | ⟨x, hx, h1, h2⟩
  · exact Or.inl (by rw [q])
  · obtain ⟨i, i1, i2, i3⟩ := wrN_mem d t e h.ws j hj x hx
    exact Or.inr ⟨i, by omega, by omega, by rw [h2, i3]; rfl⟩
theorem crash_len {d : St} (t : Bs) (e j : Nat) (kept : Nat → Bool) : (⟨((wrN d t e j).burnt.settled kept).sure, [], -1⟩ : St).sure.length = d.sure.length := by
  show (settleL kept 0 (wrN d t e j).burnt.sure _).length = _
  rw [settle_len]
  exact congrArg List.length (wrN_sure d t e j)
/-- .. it is read as what was told, or as that and the last record. -/
theorem crash_all {d : St} {ts : List Bs} {e : Nat} (h : Inv d ts e) (t : Bs) (ht : t.length ≤ 300) (hn : sumL t ∉ ts.map sumL) (j : Nat) (hj : j ≤ nsec t) (hr : e + nsec t ≤ d.sure.length) (kept : Nat → Bool) :
    Heads ⟨((wrN d t e j).burnt.settled kept).sure, [], -1⟩ ∧ ∃ e', (allL (rdOf ⟨((wrN d t e j).burnt.settled kept).sure, [], -1⟩) d.sure.length 2 [] = (ts, e') ∨ allL (rdOf ⟨((wrN d t e j).burnt.settled kept).sure, [], -1⟩) d.sure.length 2 [] = (ts ++ [t], e')) := by
  obtain ⟨c, hc⟩ : ∃ c : St, (⟨((wrN d t e j).burnt.settled kept).sure, [], -1⟩ : St) = c := ⟨_, rfl⟩
  have hlen := crash_len (d := d) t e j kept
  have hrd := crash_read h t j hj hr kept
  rw [hc] at hlen
  simp only [hc] at hrd
  rw [hc]
  have h2 := h.two
  have hle := h.le
  have hlow : ∀ k, k < e → rdOf c k = rdOf d k := fun k hk => by
    unfold rdOf
    rw [hlen]
    split
    · rename_i q
      rcases hrd k q with r | ⟨i, -, i2, -⟩
      · rw [r]
      · omega
    · rfl
  have hhi : ∀ k, e + nsec t ≤ k → rdOf c k = some zeros ∨ rdOf c k = none := fun k hk => by
    unfold rdOf
    rw [hlen]
    by_cases q : k < d.sure.length
    · rw [if_pos q]
      rcases hrd k q with r | ⟨i, i1, i2, -⟩
      · rw [r, h.zero k (by omega) q]; exact Or.inl rfl
      · omega
    · rw [if_neg q]; exact Or.inr rfl
  have hmid : ∀ i, i < nsec t → rdOf c (e + i) = some (onD t i) ∨ rdOf c (e + i) = some zeros ∨ rdOf c (e + i) = none := fun i hi => by
    have q : e + i < d.sure.length := by omega
    unfold rdOf
    rw [hlen, if_pos q]
    rcases hrd (e + i) q with r | ⟨i', i1, i2, i3⟩
    · rw [r, h.zero (e + i) (by omega) q]; exact Or.inr (Or.inl rfl)
    · rw [i3, show i' = i by omega]; exact Or.inl rfl
  constructor
  · refine heads_of (fun k hk => ?_)
    rw [hlen] at hk
    rcases hrd k hk with r | ⟨i, i1, -, i3⟩
    · rw [r]; exact h.cov k hk
    · exact Or.inr ⟨t, ht, i, i1, i3⟩
  · have hla : LaidL (rdOf c) 2 ts e := rd_congr ts 2 e h.laid (fun k _ hk => hlow k hk)
    rw [all_laid ts d.sure.length 2 e [] hla (fun u hu => by have := h.short u hu; omega) (by simpa using h.once) (by omega), List.nil_append]
    have hp := nsec_pos t
    rcases rec_part (by omega) hmid with q | ⟨q, -⟩
    · refine ⟨e + nsec t, Or.inr ?_⟩
      have hpos : 0 < d.sure.length - ts.length := by omega
      obtain ⟨f, hf⟩ : ∃ f, d.sure.length - ts.length = f + 1 := ⟨_, (Nat.succ_pred_eq_of_pos hpos).symm⟩
      rw [hf, allL, q]
      simp only
      rw [if_neg hn]
      have hnn : recL (rdOf c) (e + nsec t) = none := rec_none (hhi _ (Nat.le_refl _))
      cases f with
      | zero => rfl
      | succ f => rw [allL, hnn]
    · refine ⟨e, Or.inl ?_⟩
      cases d.sure.length - ts.length with
      | zero => rfl
      | succ f => rw [allL, q]
theorem wrN_fuse {d : St} (h : d.fuse = -1) (t : Bs) (e : Nat) : ∀ j, (wrN d t e j).fuse = -1
  | 0 => h
  | j + 1 => by
    have ih := wrN_fuse h t e j
    show (wrN d t e j).burnt.fuse = -1
    unfold St.burnt
    simp [ih]
theorem wrN_live {d : St} (h : d.fuse = -1) (t : Bs) (e j : Nat) : (wrN d t e j).live = true := live_free (wrN_fuse h t e j)
end Go.Proofs.YtemcpjflpggaeaaDoor.Dk
