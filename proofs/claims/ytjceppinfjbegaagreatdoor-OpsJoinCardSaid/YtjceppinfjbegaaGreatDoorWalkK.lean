import Derived.Test.YtjceppinfjbegaaGreatDoorWalkJ
set_option linter.unusedSimpArgs false
set_option linter.unusedVariables false
namespace Go.Proofs.YtjceppinfjbegaaGreatDoor
open Go.RowKit

theorem grown_below {w w' : World} (h : Below w.heap.size w w') (row : Option Nat) : w.grownBy w' row := ⟨h.os, h.tape, h.output, h.size, fun k hk _ => h.block k hk⟩
theorem owns_below {w w' : World} {base : Nat} {e : TypeId} {size : Nat} {v : Value} {n : Nat} {xs : List Value} (h : w.ownsRow base e size v n xs) (hb : Below w.heap.size w w') : w'.ownsRow base e size v n xs :=
  h.kept (grown_below hb none) (by cases v.ownBlock <;> simp)

theorem own_mono {w : World} {base B : Nat} {e : TypeId} {size : Nat} {v : Value} {n : Nat} {xs : List Value} (hB : B ≤ base) (h : w.ownsRow base e size v n xs) : w.ownsRow B e size v n xs := by
  obtain ⟨h1, h | ⟨g, cap, cur, hv, hg, r⟩⟩ := h
  · exact ⟨h1, Or.inl h⟩
  · exact ⟨h1, Or.inr ⟨g, cap, cur, hv, by omega, r⟩⟩

theorem cut_any (s sep : ByteArray) (w : World) (hs : s.size ≤ 1000000) (hE : Env w) :
    Calls Tryz.prog 94 #[.string s, .string sep] w fun e w' => e = .returned (.tuple #[.string ⟨(Lib.cut s.data.toList sep.data.toList).1.toArray⟩, .string ⟨(Lib.cut s.data.toList sep.data.toList).2.1.toArray⟩, .bool (Lib.cut s.data.toList sep.data.toList).2.2]) ∧ Below w.heap.size w w' := by
  obtain ⟨m, hm⟩ := hE.mx
  exact (Tryz.strings_Cut s sep m w (by omega) hm).mono fun _ _ ⟨h1, n, h2⟩ => ⟨h1, by rw [h2]; exact below_drewN (Below.refl _ _) _⟩

def partsOf (s : ByteArray) : List ByteArray := Lib.splitB ⟨#[32]⟩ 0 (min 7 (s.size + 1) - 1) s

theorem splitN_any (s : ByteArray) (w : World) (hs : s.size ≤ 1000000) (hE : Env w) :
    Calls Tryz.prog 127 #[.string s, .string ⟨#[32]⟩, .int .i64 7] w fun e w' => e = .returned (.slice (some ⟨w.heap.size, 0, none⟩) (partsOf s).length (min 7 (s.size + 1))) ∧ w' = w.alloc (.cells (Lib.cellsOf (partsOf s) (min 7 (s.size + 1))) 9) := by
  obtain ⟨m, hm⟩ := hE.mx
  exact Tryz.strings_SplitN s ⟨#[32]⟩ 7 m w (by omega) hm (by decide) (by decide) (by decide)

theorem splitB_len (sep : ByteArray) : ∀ (k : Nat) (s : ByteArray), (Lib.splitB sep 0 k s).length ≤ k + 1
  | 0, s => by simp [Lib.splitB]
  | k + 1, s => by
    unfold Lib.splitB
    split
    · simp
    · simp; exact splitB_len sep k _
theorem splitB_pos (sep : ByteArray) : ∀ (k : Nat) (s : ByteArray), 1 ≤ (Lib.splitB sep 0 k s).length
  | 0, s => by simp [Lib.splitB]
  | k + 1, s => by
    unfold Lib.splitB
    split <;> simp
theorem splitB_size (sep : ByteArray) : ∀ (k : Nat) (s : ByteArray), ∀ x ∈ Lib.splitB sep 0 k s, x.size ≤ s.size
  | 0, s => by simp [Lib.splitB]
  | k + 1, s => by
    intro x hx
    unfold Lib.splitB at hx
    split at hx
    · simp at hx; rw [hx]; exact Nat.le_refl _
    · simp at hx
      rcases hx with hx | hx
      · rw [hx]; simp; omega
      · have := splitB_size sep k _ x hx
        simp at this; omega
theorem parts_len (s : ByteArray) : (partsOf s).length ≤ min 7 (s.size + 1) := by
  have := splitB_len ⟨#[32]⟩ (min 7 (s.size + 1) - 1) s
  unfold partsOf; omega
theorem parts_size (s x : ByteArray) (h : x ∈ partsOf s) : x.size ≤ s.size := splitB_size _ _ _ _ h
theorem cellsOf_at {l : List ByteArray} {N j : Nat} (h : j < l.length) : (Lib.cellsOf l N)[j]? = some (.string l[j]) := by
  simp [Lib.cellsOf, List.getElem?_append, h]

def colOf (p : ByteArray) : Cl := (⟨(Lib.cut p.data.toList [58]).1.toArray⟩, kindOfI (Lib.cut p.data.toList [58]).2.1)
def colsOf (s : ByteArray) : List Cl := (partsOf s).map colOf
def colCells (cs : List Cl) : List Value := cs.flatMap fun c => [.string c.1, .int .i64 c.2]

theorem colCells_len (cs : List Cl) : (colCells cs).length = cs.length * 2 := by
  induction cs with
  | nil => rfl
  | cons c r ih => simp only [colCells, List.flatMap_cons, List.length_append, List.length_cons, List.length_nil] at ih ⊢; omega
theorem colCells_append (a b : List Cl) : colCells (a ++ b) = colCells a ++ colCells b := by simp [colCells]
theorem colCells_at : ∀ (cs : List Cl) (j : Nat) (h : j < cs.length), (colCells cs)[j * 2]? = some (.string cs[j].1) ∧ (colCells cs)[j * 2 + 1]? = some (.int .i64 cs[j].2)
  | [], _, h => absurd h (by simp)
  | c :: r, 0, _ => ⟨rfl, rfl⟩
  | c :: r, j + 1, h => by
    have := colCells_at r j (by simpa using h)
    have e : colCells (c :: r) = .string c.1 :: .int .i64 c.2 :: colCells r := by simp [colCells]
    rw [e, show (j + 1) * 2 = j * 2 + 1 + 1 by omega]
    simpa using this

theorem cols_of_own {w : World} {base : Nat} {v : Value} {cs : List Cl} (h : w.ownsRow base 60 2 v cs.length (colCells cs)) (hs : ∀ x ∈ cs, x.1.size ≤ maxLen) : ColsIs w v cs := by
  have h0 := h
  obtain ⟨-, h | ⟨g, cap, cur, rfl, hg, hh, hn, hm, _, _⟩⟩ := h
  · obtain ⟨rfl, hn⟩ := h
    exact ⟨none, 0, by rw [hn], by omega, hs, Or.inl (List.length_eq_zero_iff.1 hn)⟩
  · refine ⟨some ⟨g, 0, none⟩, cap, rfl, hn, hs, Or.inr ⟨g, 0, rfl, (h0.lt g rfl).2, fun j hj => ?_⟩⟩
    have hc := colCells_at cs j hj
    have e1 := h0.cellAt (j * 2) (by omega)
    have e2 := h0.cellAt (j * 2 + 1) (by omega)
    rw [show 0 + j * 2 = j * 2 by omega]
    exact ⟨e1.trans hc.1, e2.trans hc.2⟩

theorem cut_len (l sep : List UInt8) : (Lib.cut l sep).1.length ≤ l.length ∧ (Lib.cut l sep).2.1.length ≤ l.length := by
  unfold Lib.cut
  split
  · simp; omega
  · simp

/-- What is told of a first line. -/
def colsEnd (e : Ending) (w' : World) (B : Nat) (cs : List Cl) : Prop :=
  if rightColsB cs = true then ∃ v, e = .returned (.tuple #[v, .bool true]) ∧ w'.ownsRow B 60 2 v cs.length (colCells cs) ∧ ∀ x ∈ cs, x.1.size ≤ maxLen else e = .returned (.tuple #[.slice none 0 0, .bool false])

theorem Tryz.infoCol : (Tryz.prog.info? 60).map (fun i => (i.zero, i.size, i.bytes)) = some (some (.agg #[.string ⟨#[]⟩, .int .i64 0]), 2, 24) := by kernel_rfl

set_option maxRecDepth 100000 in
set_option maxHeartbeats 1600000 in
theorem parseCols_any (s : ByteArray) (w : World) (hs : s.size ≤ 100000) (hE : Env w) :
    Calls Tryz.prog 95 #[.string s] w fun e w' => Below w.heap.size w w' ∧ colsEnd e w' w.heap.size (colsOf s) := by
  obtain ⟨i0, hi, hz0, hz1, hz2⟩ := info_parts Tryz.infoCol
  have HS := Hid.mk (splitN_any s w (by omega) hE)
  have hpl := parts_len s
  have hps := parts_size s
  have HPS := Hid.mk hps
  clear hps
  generalize hpo : partsOf s = ps at *
  have HPO := Hid.mk hpo
  clear hpo
  have hp7 : ps.length ≤ 7 := by omega
  have HPL := Hid.mk hpl
  have HE := Hid.mk hE
  clear hpl hE
  go_enter Tryz.func95, Tryz.ntmps95
  go_wp2_with (go_at_call 127; refine HS.out.mono ?_; rintro e w1 ⟨rfl, rfl⟩)
  have hb1 : Below w.heap.size w (w.alloc (.cells (Lib.cellsOf ps (min 7 (s.size + 1))) 9)) := below_box _ _
  have hcl : ∀ j (h : j < ps.length), (w.alloc (.cells (Lib.cellsOf ps (min 7 (s.size + 1))) 9)).cell? ⟨w.heap.size, j, none⟩ = some (.string ps[j]) := fun j h => by
    rw [World.cell?_alloc_at _ _ _ _ rfl]; exact cellsOf_at h
  have HE1 := Hid.mk (HE.out.below hb1)
  have hsz1 : (w.alloc (.cells (Lib.cellsOf ps (min 7 (s.size + 1))) 9)).heap.size = w.heap.size + 1 := by simp
  generalize w.alloc (.cells (Lib.cellsOf ps (min 7 (s.size + 1))) 9) = W at *
  have HSZ := Hid.mk hsz1
  clear hsz1
  go_loopw [4, 13] (fun v i wr => ∃ k : Nat, k ≤ ps.length ∧ i = .int .i64 k ∧ wr.ownsRow W.heap.size 60 2 v k (colCells ((ps.map colOf).take k)) ∧ Below W.heap.size W wr) (fun _ i _ => ps.length - (intOf i).toNat)
  case atStart => exact ⟨0, Nat.zero_le _, rfl, World.ownsRow_nil _ _ _ _, Below.refl _ _⟩
  case round =>
    obtain ⟨k, hk, rfl, hown, hnx⟩ := hrel
    by_cases hlt : k < ps.length
    · have hsW : w.heap.size < W.heap.size := by have := HSZ.out; omega
      have d := (hnx.cell (p := ⟨w.heap.size, k, none⟩) hsW).trans (hcl k hlt)
      have hpk : ps[k].size ≤ 100000 := by have := HPS.out _ (List.getElem_mem hlt); omega
      have HEr := Hid.mk (HE1.out.below hnx)
      go_wp2_with (first | (go_at_call 94; refine (cut_any _ _ _ (by omega) HEr.out).mono ?_; rintro e w2 ⟨rfl, hb2⟩) | (go_at_call 128; refine (kindOf_any _ _ (HEr.out.below hb2)).mono ?_; rintro e w3 ⟨rfl, rfl⟩) | (at_builtin; refine wpList_append_own _ rfl _ _ 33 rfl W.heap.size 60 i0 (.agg #[.string ⟨#[]⟩, .int .i64 0]) 2 24 Tryz.underlying33 hi hz0 hz1 hz2 rfl (by decide) _ _ _ rfl ((owns_below hown hb2).alloc _) ⟨w3.heap.size, 0, none⟩ 1 1 [.string (colOf ps[k]).1, .int .i64 (colOf ps[k]).2] rfl rfl ?c1 ?c2 ?c3 ?c4 ?c5 ?_))
      case c1 =>
        intro j u hj
        match j, hj with
        | 0, hj => simp at hj; subst hj; simp [Addr.add, colOf]
        | 1, hj => simp at hj; subst hj; simp [Addr.add, colOf]
      case c2 => intro u hu; simp at hu; rcases hu with rfl | rfl <;> rfl
      case c3 => unfold maxLen; omega
      case c4 => omega
      case c5 => have := hnx.size; have := hb2.size; simp; omega
      · intro v' w4 hown' hgrow _
        go_wp2
        go_roundw
        case rel => exact ⟨k + 1, by omega, by go_num, by rw [List.take_succ_eq_append_getElem (by simpa using hlt), colCells_append, List.getElem_map]; exact hown', (((hnx.trans (hb2.mono hnx.size)).alloc (by have := hnx.size; have := hb2.size; omega) _).grown hgrow (by have := hnx.size; have := hb2.size; simp; omega) (fun q hq => (hown.lt q hq).1))⟩
        case measure => simp [intOf]; omega
    · have hke : k = ps.length := by omega
      subst hke
      rw [List.take_of_length_le (by simp)] at hown
      have hco : colsOf s = ps.map colOf := by rw [colsOf, HPO.out]
      have hsz : ∀ x ∈ ps.map colOf, x.1.size ≤ maxLen := by
        intro x hx
        rw [List.mem_map] at hx
        obtain ⟨p, hp, rfl⟩ := hx
        have h1 := HPS.out p hp
        have h2 := (cut_len p.data.toList [58]).1
        simp at h2
        show (Lib.cut p.data.toList [58]).1.toArray.size ≤ maxLen
        unfold maxLen
        simp
        omega
      have how2 := own_mono (show w.heap.size ≤ W.heap.size by have := HSZ.out; omega) hown
      have hcs : ColsIs wr _ (ps.map colOf) := cols_of_own (by rw [List.length_map]; exact hown) hsz
      have HC := Hid.mk (rightCols_any _ _ _ hcs)
      have HCO := Hid.mk hco
      have HOW := Hid.mk how2
      have HZ := Hid.mk hsz
      clear hcs hco hown hsz how2
      have hbl : Below w.heap.size w wr := hb1.trans (hnx.mono (by have := HSZ.out; omega))
      have HBL := Hid.mk hbl
      clear hbl
      cases g : rightColsB (ps.map colOf)
      · go_wp2_with (go_at_call 78; refine HC.out.mono ?_; rintro e w5 ⟨rfl, hb5⟩; rw [g])
        go_ret2
        refine ⟨HBL.out.trans (hb5.mono HBL.out.size), ?_⟩
        rw [HCO.out, colsEnd, if_neg (by simp [g])]
        rfl
      · go_wp2_with (go_at_call 78; refine HC.out.mono ?_; rintro e w5 ⟨rfl, hb5⟩; rw [g])
        go_ret2
        refine ⟨HBL.out.trans (hb5.mono HBL.out.size), ?_⟩
        rw [HCO.out, colsEnd, if_pos g]
        exact ⟨_, rfl, by rw [List.length_map]; exact owns_below HOW.out hb5, HZ.out⟩
end Go.Proofs.YtjceppinfjbegaaGreatDoor

