import Derived.Test.YtajkjhkjgibcfaaDoorFlwS
import Derived.Shelf.SlSortCmp.QuietGrown
set_option linter.unusedSimpArgs false
set_option linter.unusedVariables false
namespace Go.Proofs.YtajkjhkjgibcfaaDoor
open Go.RowKit
open Go.Sort (grow alloc_eq_grow grow_grow grow_empty)

/-- A world with draws and blocks behind it. -/
def Grn (w w' : World) : Prop := ∃ q os, w' = grow (w.drewN q) os
theorem Grn.refl (w : World) : Grn w w := ⟨0, #[], by rw [grow_empty]; rfl⟩
theorem Grn.box (w : World) (o : Obj) : Grn w (w.alloc o) := ⟨0, #[o], by rw [alloc_eq_grow]; rfl⟩
theorem Grn.then {a b c : World} (h : Grn a b) (k : Grn b c) : Grn a c := by
  obtain ⟨q, os, rfl⟩ := h
  obtain ⟨q', os', rfl⟩ := k
  exact ⟨q + q', os ++ os', by show grow (grow ((a.drewN q).drewN q') os) os' = _; rw [grow_grow, World.drewN_drewN]⟩
theorem Grn.below {w w' : World} (h : Grn w w') : Below w.heap.size w w' := by
  obtain ⟨q, os, rfl⟩ := h
  exact below_growN _ _ _
theorem Grn.mk' (w : World) (q : Nat) (os : Array Obj) : Grn w (grow (w.drewN q) os) := ⟨q, os, rfl⟩
/-- What arg writes, of bytes. -/
def argB (s : ByteArray) (k n : Int) (t : ByteArray) : ByteArray := ba (argL (s.data.toList, k, n, t.data.toList))
def AgB (s : ByteArray) (n : Int) (t : ByteArray) : Prop := s.size ≤ 1000 ∧ t.size ≤ 1000 ∧ -9223372036854775808 ≤ n ∧ n ≤ 9223372036854775807
theorem argB_size {s : ByteArray} {k n : Int} {t : ByteArray} (h : AgB s n t) : (argB s k n t).size ≤ 2000 := by
  rw [argB, ba_size, argL]
  dsimp only
  split
  · unfold valueL
    split
    · have := Lib.itoa_length_le n h.2.2.1 h.2.2.2; omega
    · have := h.2.1; simp; omega
  · have := h.1; simp; omega
set_option maxHeartbeats 400000 in
theorem valueG_any (k n : Int) (s : ByteArray) (w : World) (hs : s.size ≤ 1000) (h0 : -9223372036854775808 ≤ n) (h1 : n ≤ 9223372036854775807) (hE : FEnv w) :
    Calls Tryd.prog 48 #[.agg #[.int .i64 k, .int .i64 n, .string s]] w fun e w' => e = .returned (.string (ba (valueL k n s.data.toList))) ∧ Grn w w' := by
  have hI := Tryd.strconv_Itoa n h0 h1 (w.alloc (.cells #[.int .i64 k, .int .i64 n, .string s] 57)) (hE.belowW (below_box _ _)).pw
  have HI := Hid.mk hI
  have HE := Hid.mk hE
  clear hI hE
  cases g : (k == 1)
  · have HV : Hid (valueL k n s.data.toList = 39 :: (s.data.toList ++ [39])) := by show _ = _; simp at g; simp [valueL, g]
    clear HI h0 h1
    go_enter Tryd.func48, Tryd.ntmps48
    go_wp2
    go_ret
    exact ⟨ret_strB (by rw [HV.out]; simp), Grn.box _ _⟩
  · have HV : Hid (valueL k n s.data.toList = Lib.itoa n) := by show _ = _; simp at g; simp [valueL, g]
    go_enter Tryd.func48, Tryd.ntmps48
    go_wp2_with (go_at_call 29; refine HI.out.mono ?_; rintro e w' ⟨rfl, kq, osq, rfl⟩)
    go_ret
    refine ⟨ret_strB (by rw [HV.out]), (Grn.box _ _).then (Grn.mk' _ _ _)⟩
theorem emB {s : ByteArray} (h : s.data.toList ≠ []) : s.toList.isEmpty = false := by
  rw [ByteArray.toList_eq]
  cases h' : s.data.toList with
  | nil => exact absurd h' h
  | cons a b => rfl
set_option maxHeartbeats 400000 in
theorem argG_any (s : ByteArray) (k n : Int) (t : ByteArray) (w : World) (ha : AgB s n t) (hE : FEnv w) :
    Calls Tryd.prog 31 #[.agg #[.string s, .int .i64 k, .int .i64 n, .string t]] w fun e w' => e = .returned (.string (argB s k n t)) ∧ Grn w w' := by
  have HV := Hid.mk (valueG_any k n t (w.alloc (.cells #[.string s, .int .i64 k, .int .i64 n, .string t] 59)) ha.2.1 ha.2.2.1 ha.2.2.2 (hE.belowW (below_box _ _)))
  have HE := Hid.mk hE
  clear hE ha
  by_cases hx : s.data.toList = []
  · have HA : Hid (argB s k n t = ba (valueL k n t.data.toList)) := by show _ = _; rw [argB, argL, if_pos hx]
    have hs : s = ⟨#[]⟩ := baX hx
    subst hs
    clear hx
    generalize argB ⟨#[]⟩ k n t = r at *
    go_enter Tryd.func31, Tryd.ntmps31
    go_wp2_with (go_at_call 48; refine HV.out.mono ?_; rintro e w' ⟨rfl, hb⟩)
    go_ret
    exact ⟨by rw [HA.out]; rfl, (Grn.box _ _).then hb⟩
  · have HA : Hid (argB s k n t = s) := by show _ = _; rw [argB, argL, if_neg hx]
    have he := emB hx
    clear HV hx
    generalize argB s k n t = r at *
    go_enter Tryd.func31, Tryd.ntmps31
    go_wp2
    go_ret
    exact ⟨by rw [HA.out]; rfl, Grn.box _ _⟩
/-- What Text wants of the places it calls. -/
def nthI (xs : List By) (i : Int) : ByteArray := ba (nthL xs i.toNat)
theorem nthG {W : World} {v : Value} {xs : List By} (h : StrsR W v xs) (hx : xs.length ≤ 1000) (i : Int) (hi : 0 ≤ i ∧ i ≤ 1000) (q : Nat) (os : Array Obj) :
    Calls Tryd.prog 30 #[v, .int .i64 i] (grow (W.drewN q) os) fun e w' => e = .returned (.string (nthI xs i)) ∧ ∃ q' os', w' = grow ((grow (W.drewN q) os).drewN q') os' := by
  have e : i = (i.toNat : Int) := by omega
  have := nth_any v xs i.toNat _ (h.below (below_growN W q os)) hx (by omega)
  rw [← e] at this
  exact this.mono fun e w' hh => ⟨hh.1, by rw [hh.2]; exact Grn.refl _⟩
theorem argG {W : World} (s : ByteArray) (k n : Int) (t : ByteArray) (hE : FEnv W) (ha : AgB s n t) (q : Nat) (os : Array Obj) :
    Calls Tryd.prog 31 #[.agg #[.string s, .int .i64 k, .int .i64 n, .string t]] (grow (W.drewN q) os) fun e w' => e = .returned (.string (argB s k n t)) ∧ ∃ q' os', w' = grow ((grow (W.drewN q) os).drewN q') os' :=
  argG_any s k n t _ ha (hE.belowW (below_growN _ _ _))
theorem jobCells (w W : World) (vs : List Value) (T : TypeId) (hW : w.alloc (.cells vs.toArray T) = W) (V : World) (hV : Grn W V) (i : Nat) (v : Value) (hv : vs[i]? = some v) : V.cell? ⟨w.heap.size, i, none⟩ = some v := by
  subst hW
  exact (hV.below.cell (p := ⟨w.heap.size, i, none⟩) (by simp)).trans ((Box.new w vs T _ rfl).cell i hv)
structure TxtIn (w W : World) (op l1 l4 r1 r4 : ByteArray) (l3 r3 : Int) (vi vc : Value) (ins cols : List By) : Prop where
  env : FEnv W
  gr : Grn w W
  si : StrsR W vi ins
  sc : StrsR W vc cols
  il : ins.length ≤ 1000
  cl : cols.length ≤ 1000
  is : ∀ x ∈ ins, x.length ≤ 1000
  cs : ∀ x ∈ cols, x.length ≤ 1000
  l : AgB l1 l3 l4
  r : AgB r1 r3 r4
  op : op.size ≤ 1000
theorem nth_size {xs : List By} (h : ∀ x ∈ xs, x.length ≤ 1000) (k : Int) : (nthI xs k).size ≤ 1000 := by
  rw [nthI, ba_size, nthL]
  generalize k.toNat = i
  rcases Nat.lt_or_ge i xs.length with hi | hi
  · rw [List.getElem?_eq_getElem hi]; exact h _ (List.getElem_mem hi)
  · rw [List.getElem?_eq_none hi]; simp
end Go.Proofs.YtajkjhkjgibcfaaDoor

