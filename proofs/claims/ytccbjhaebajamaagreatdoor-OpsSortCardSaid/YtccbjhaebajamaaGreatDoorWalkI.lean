import Derived.Test.YtccbjhaebajamaaGreatDoorWalkH
import Derived.Lib.SmallJoins
set_option linter.unusedSimpArgs false
set_option linter.unusedVariables false
namespace Go.Proofs.YtccbjhaebajamaaGreatDoor
open Go.RowKit

/-- What a text is read as, ahead of the look at what that is written as. -/
def readV (l : List UInt8) : Int × Int × List UInt8 :=
  if Lib.hasPrefix l [39] then (2, 0, Lib.trimSuffix (l.drop 1) [39]) else
  match Lib.atoiAll l with
  | .ok n => (1, n, [])
  | _ => (0, 0, [])
def parseV (l : List UInt8) : Option (Int × Int × List UInt8) :=
  if rightValueB (readV l).1 (readV l).2.1 (readV l).2.2 = true ∧ valueL (readV l).1 (readV l).2.1 (readV l).2.2 = l then some (readV l) else none

def vlOf (x : Int × Int × List UInt8) : Value := .agg #[.int .i64 x.1, .int .i64 x.2.1, .string ⟨x.2.2.toArray⟩]
def pvEnd : Option (Int × Int × List UInt8) → Value
  | some x => .tuple #[vlOf x, .nilIface]
  | none => .tuple #[.agg #[.int .i64 0, .int .i64 0, .string ⟨#[]⟩], .iface 80 (.int .i64 3)]

theorem num_end (x : Lib.NumEnd Int) : (∃ n, x = .ok n) ∨ x = Lib.atoiAll [] ∨ x = .range := by
  cases x
  · exact Or.inl ⟨_, rfl⟩
  · exact Or.inr (Or.inl rfl)
  · exact Or.inr (Or.inr rfl)
theorem atoi_ok (s : ByteArray) (w : World) (n : Int) (hs : s.size ≤ 1000000) (h : Lib.atoiAll s.data.toList = .ok n) :
    Calls Tryz.prog 91 #[.string s] w fun e w' => e = .returned (.tuple #[.int .i64 n, .nilIface]) ∧ Below w.heap.size w w' :=
  (Tryz.strconv_Atoi_ok s (by omega) n h w).mono fun _ _ x => ⟨x.1, by
    rcases x.2 with h | ⟨t, h⟩
    · rw [h]; exact Below.refl _ _
    · rw [h]; exact Joins.below_bytesWorld _ _ _ _ (Nat.le_refl _)⟩
theorem atoi_bad (s : ByteArray) (w : World) (hs : s.size ≤ 1000000) (h : ∀ n, Lib.atoiAll s.data.toList ≠ .ok n) (hE : Env w) :
    Calls Tryz.prog 91 #[.string s] w fun e w' => ∃ n t p, e = .returned (.tuple #[.int .i64 n, .iface t p]) ∧ Below w.heap.size w w' := by
  obtain ⟨t1, p1, h1⟩ := hE.es
  obtain ⟨t2, p2, h2⟩ := hE.er
  rcases num_end (Lib.atoiAll s.data.toList) with ⟨n, g⟩ | g | g
  · exact absurd g (h n)
  · exact (Tryz.strconv_Atoi_syntax_var s (by omega) g t1 p1 w h1).mono fun _ _ ⟨N, x, _, _, y⟩ => ⟨_, _, _, x, y⟩
  · exact (Tryz.strconv_Atoi_range_var s (by omega) g t2 p2 w h2).mono fun _ _ ⟨N, x, _, _, y⟩ => ⟨_, _, _, x, y⟩

theorem right_small {k n : Int} {l : List UInt8} (h : rightValueB k n l = true) : l.length ≤ 16 ∧ -1000000000 ≤ n ∧ n ≤ 1000000000 := by
  unfold rightValueB at h
  split at h
  · simp at h; rw [h.2.2]; exact ⟨by simp, h.1, h.2.1⟩
  · split at h
    · simp [rightWordB] at h; rw [h.2]; exact ⟨h.1.1, by omega, by omega⟩
    · simp at h

/-- The end of the walk: what was read is looked at, and written. -/
theorem pv_end {l : List UInt8} {x : Int × Int × List UInt8} (hr : readV l = x) : parseV l = if rightValueB x.1 x.2.1 x.2.2 = true ∧ valueL x.1 x.2.1 x.2.2 = l then some x else none := by
  subst hr; rfl

theorem pre_len {s : ByteArray} (hp : Lib.hasPrefix s.data.toList [39] = true) : 1 ≤ s.size := by
  have hz : s.data.toList.length = s.size := by simp
  cases h : s.data.toList with
  | nil => rw [h] at hp; simp [Lib.hasPrefix] at hp
  | cons c r => rw [h] at hz; simp at hz; omega

theorem trim_len (l : List UInt8) {n : Nat} (h : l.length ≤ n) : (Lib.trimSuffix l [39]).length ≤ n := by
  unfold Lib.trimSuffix
  split
  · rw [List.length_take]; omega
  · exact h

set_option maxHeartbeats 1600000 in
theorem parseValue_quote (s : ByteArray) (w : World) (hs : s.size ≤ 1000000) (hE : Env w) (hp : Lib.hasPrefix s.data.toList [39] = true) :
    Calls Tryz.prog 62 #[.string s] w fun e w' => e = .returned (pvEnd (parseV s.data.toList)) ∧ Below w.heap.size w w' := by
  have hl1 : 1 ≤ s.size := pre_len hp
  have hP := Tryz.strings_HasPrefix s ⟨#[39]⟩ ((w.alloc (.cells #[.int .i64 0, .int .i64 0, .string ⟨#[]⟩] 32)).alloc (.cells #[.int .i64 0, .int .i64 0, .string ⟨#[]⟩] 32))
  have hp' : Lib.hasPrefix s.data.toList (ByteArray.mk #[39]).data.toList = true := hp
  rw [hp'] at hP
  have HP := Hid.mk hP
  have HE := Hid.mk hE
  have hrd : readV s.data.toList = (2, 0, Lib.trimSuffix (s.data.toList.drop 1) [39]) := by simp [readV, hp]
  have HX := Hid.mk (pv_end hrd)
  clear hP hE hp hp' hrd
  have HT : Hid (List.take (s.size - 1) s.data.toList.tail = s.data.toList.drop 1) := by
    show _ = _
    rw [List.drop_one, List.take_of_length_le (by simp)]
  have hxl : (Lib.trimSuffix (s.data.toList.drop 1) [39]).length ≤ 1000000 := trim_len _ (by simp; omega)
  go_enter Tryz.func62, Tryz.ntmps62
  go_wp2_with (first | (go_at_call 89; refine HP.out.mono ?_; rintro e w' ⟨rfl, rfl⟩) | (go_at_call 90; refine (Tryz.strings_TrimSuffix _ _ _ (by simp; omega)).mono ?_; rintro e w' ⟨rfl, rfl⟩) | (go_at_call 57; fail))
  rw [HT.out]
  clear HT HP
  generalize Lib.trimSuffix (s.data.toList.drop 1) [39] = x at *
  have hq := rightValue_any 2 0 ⟨x.toArray⟩ ((w.alloc (.cells #[.int .i64 0, .int .i64 0, .string ⟨#[]⟩] 32)).alloc (.cells #[.int .i64 2, .int .i64 0, .string ⟨x.toArray⟩] 32)) (by unfold maxLen; simp [ByteArray.size]; omega)
  have hV := fun (w1 : World) (h1 : Env w1) (h2 : x.length ≤ 1000) => value_any 2 0 ⟨x.toArray⟩ w1 (by simpa [ByteArray.size] using h2) (by omega) (by omega) h1
  cases g : rightValueB 2 0 x
  · have hn : parseV s.data.toList = none := by rw [HX.out]; simp [g]
    rw [show rightValueB 2 0 (ByteArray.mk x.toArray).data.toList = false from g] at hq
    have HN := Hid.mk hn
    clear hn HX hV
    refine hq.mono ?_
    rintro e w1 ⟨rfl, hb1⟩
    obtain ⟨hc1, hf1⟩ := bcell hb1
    go_wp2
    have hz : w.heap.size + 1 < w1.heap.size := by have := hb1.size; simp at this; omega
    have c0 : w1.cell? ⟨w.heap.size, 0, none⟩ = some (.int .i64 0) := (hc1 _ _ (by simp; omega)).trans (by simp)
    have c1 : w1.cell? ⟨w.heap.size, 1, none⟩ = some (.int .i64 0) := (hc1 _ _ (by simp; omega)).trans (by simp)
    have c2 : w1.cell? ⟨w.heap.size, 2, none⟩ = some (.string ⟨#[]⟩) := (hc1 _ _ (by simp; omega)).trans (by simp)
    clear hc1 hf1
    refine bodyPost_ret (v := pvEnd none) (by simp [results, Tryz.results62, go_sem, c0, c1, c2, pvEnd]) rfl ⟨by rw [HN.out], ?_⟩
    exact (((((below_box _ _).alloc (by simp) _).trans (hb1.mono (by simp; omega))).setCell (by simp) _).setCell (by simp) _).setCell (by simp) _
  · rw [show rightValueB 2 0 (ByteArray.mk x.toArray).data.toList = true from g] at hq
    have hl16 := (right_small g).1
    have h2 : ∀ w1, Env w1 → _ := fun w1 h => hV w1 h (by omega)
    have HV := Hid.mk h2
    clear h2 hV
    refine hq.mono ?_
    rintro e w1 ⟨rfl, hb1⟩
    obtain ⟨hc1, hf1⟩ := bcell hb1
    have hE1 : Env w1 := (HE.out.below ((below_box w _).alloc (by simp) _)).below hb1
    have HE1 := Hid.mk hE1
    have hz : w.heap.size + 1 < w1.heap.size := by have := hb1.size; simp at this; omega
    have hz0 : w.heap.size < w1.heap.size := by omega
    clear hq hE1
    cases g2 : (valueL 2 0 x == s.toList)
    · have hn : parseV s.data.toList = none := by
        rw [HX.out, if_neg]
        rintro ⟨-, h⟩
        rw [ByteArray.toList_eq] at g2
        simp [h] at g2
      have HN := Hid.mk hn
      clear hn HX
      go_wp2_with (go_at_call 52; refine (HV.out _ HE1.out).mono ?_; rintro e w2 ⟨rfl, hb2⟩; obtain ⟨hc2, hf2⟩ := bcell hb2)
      have c0 : w2.cell? ⟨w.heap.size, 0, none⟩ = some (.int .i64 0) := (hc2 _ _ hz0).trans ((hc1 _ _ (by simp; omega)).trans (by simp))
      have c1 : w2.cell? ⟨w.heap.size, 1, none⟩ = some (.int .i64 0) := (hc2 _ _ hz0).trans ((hc1 _ _ (by simp; omega)).trans (by simp))
      have c2 : w2.cell? ⟨w.heap.size, 2, none⟩ = some (.string ⟨#[]⟩) := (hc2 _ _ hz0).trans ((hc1 _ _ (by simp; omega)).trans (by simp))
      clear hc1 hf1 hc2 hf2
      refine bodyPost_ret (v := pvEnd none) (by simp [results, Tryz.results62, go_sem, c0, c1, c2, pvEnd]) rfl ⟨by rw [HN.out], ?_⟩
      exact ((((((below_box _ _).alloc (by simp) _).trans (hb1.mono (by simp; omega))).trans (hb2.mono (by omega))).setCell (by simp) _).setCell (by simp) _).setCell (by simp) _
    · have hn : parseV s.data.toList = some (2, 0, x) := by
        rw [HX.out, if_pos]
        rw [ByteArray.toList_eq] at g2
        exact ⟨g, by simpa using g2⟩
      have HN := Hid.mk hn
      clear hn HX
      go_wp2_with (go_at_call 52; refine (HV.out _ HE1.out).mono ?_; rintro e w2 ⟨rfl, hb2⟩; obtain ⟨hc2, hf2⟩ := bcell hb2)
      have c0 : w2.cell? ⟨w.heap.size, 0, none⟩ = some (.int .i64 0) := (hc2 _ _ hz0).trans ((hc1 _ _ (by simp; omega)).trans (by simp))
      have c1 : w2.cell? ⟨w.heap.size, 1, none⟩ = some (.int .i64 0) := (hc2 _ _ hz0).trans ((hc1 _ _ (by simp; omega)).trans (by simp))
      have c2 : w2.cell? ⟨w.heap.size, 2, none⟩ = some (.string ⟨#[]⟩) := (hc2 _ _ hz0).trans ((hc1 _ _ (by simp; omega)).trans (by simp))
      clear hc1 hf1 hc2 hf2
      refine bodyPost_ret (v := pvEnd (some (2, 0, x))) (by simp [results, Tryz.results62, go_sem, c0, c1, c2, pvEnd, vlOf]) rfl ⟨by rw [HN.out], ?_⟩
      exact ((((((below_box _ _).alloc (by simp) _).trans (hb1.mono (by simp; omega))).trans (hb2.mono (by omega))).setCell (by simp) _).setCell (by simp) _).setCell (by simp) _
end Go.Proofs.YtccbjhaebajamaaGreatDoor
