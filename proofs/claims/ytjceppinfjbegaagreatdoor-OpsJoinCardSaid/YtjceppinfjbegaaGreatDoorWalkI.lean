import Derived.Test.YtjceppinfjbegaaGreatDoorWalkG
import Derived.Lib.SmallJoins
set_option linter.unusedSimpArgs false
set_option linter.unusedVariables false
namespace Go.Proofs.YtjceppinfjbegaaGreatDoor
open Go.RowKit

/-- What the program's own variables hold, as far as these functions read them. -/
structure Env (w : World) : Prop where
  size : ∀ g, g ∈ [1, 0, 4, 5, 3] → g < w.heap.size
  mx : ∃ m, w.cell? ⟨1, 0, none⟩ = some (.int .i64 m)
  k0 : w.cell? ⟨0, 0, none⟩ = some (.string ⟨#[]⟩)
  k1 : w.cell? ⟨0, 1, none⟩ = some (.string ⟨#[105, 110, 116]⟩)
  k2 : w.cell? ⟨0, 2, none⟩ = some (.string ⟨#[116, 101, 120, 116]⟩)
  es : ∃ tp p, w.var? Tryz.prog "strconv.ErrSyntax" = some #[.iface tp p]
  er : ∃ tp p, w.var? Tryz.prog "strconv.ErrRange" = some #[.iface tp p]
  pw : Lib.TabIs Tryz.prog w "internal/strconv.uint64pow10" .u64 Lib.pow10Tab

theorem Env.below {w w' : World} (h : Env w) (hb : Below w.heap.size w w') : Env w' := by
  have hs := h.size
  refine ⟨fun g hg => Nat.lt_of_lt_of_le (h.size g hg) hb.size, ?_, ?_, ?_, ?_, ?_, ?_, ?_⟩
  · obtain ⟨m, hm⟩ := h.mx
    exact ⟨m, (hb.cell (p := ⟨1, 0, none⟩) (hs _ (by simp))).trans hm⟩
  · exact (hb.cell (p := ⟨0, 0, none⟩) (hs _ (by simp))).trans h.k0
  · exact (hb.cell (p := ⟨0, 1, none⟩) (hs _ (by simp))).trans h.k1
  · exact (hb.cell (p := ⟨0, 2, none⟩) (hs _ (by simp))).trans h.k2
  · obtain ⟨tp, p, hv⟩ := h.es
    exact ⟨tp, p, var?_below (g := 4) hb (by kernel_rfl) (hs _ (by simp)) hv⟩
  · obtain ⟨tp, p, hv⟩ := h.er
    exact ⟨tp, p, var?_below (g := 5) hb (by kernel_rfl) (hs _ (by simp)) hv⟩
  · exact var?_below (g := 3) hb (by kernel_rfl) (hs _ (by simp)) h.pw

theorem below_growN (w : World) (k : Nat) (os : Array Obj) : Below w.heap.size w (Sort.grow (w.drewN k) os) :=
  ⟨rfl, rfl, rfl, by simp [Sort.grow, World.drewN], fun k hk => by simp [Sort.grow, World.drewN, Array.getElem?_append, hk]⟩

theorem ret_strB {x : ByteArray} {l : List UInt8} (h : x.data.toList = l) : Ending.returned (.string x) = .returned (.string ⟨l.toArray⟩) := by rw [str_of h]

/-- What a value is written as. -/
def valueL (k n : Int) (l : List UInt8) : List UInt8 := if k = 1 then Lib.itoa n else 39 :: (l ++ [39])

theorem strcat_data (a b : ByteArray) : (a ++ b).data.toList = a.data.toList ++ b.data.toList := by simp

set_option maxHeartbeats 400000 in
theorem value_any (k n : Int) (s : ByteArray) (w : World) (hs : s.size ≤ 1000) (h0 : -9223372036854775808 ≤ n) (h1 : n ≤ 9223372036854775807) (hE : Env w) :
    Calls Tryz.prog 100 #[.agg #[.int .i64 k, .int .i64 n, .string s]] w fun e w' => e = .returned (.string ⟨(valueL k n s.data.toList).toArray⟩) ∧ Below w.heap.size w w' := by
  have hI := Tryz.strconv_Itoa n h0 h1 (w.alloc (.cells #[.int .i64 k, .int .i64 n, .string s] 24)) (hE.below (below_box _ _)).pw
  have HI := Hid.mk hI
  have HE := Hid.mk hE
  clear hI hE
  cases g : (k == 1)
  · have HV : Hid (valueL k n s.data.toList = 39 :: (s.data.toList ++ [39])) := by show _ = _; simp at g; simp [valueL, g]
    clear HI h0 h1
    go_enter Tryz.func100, Tryz.ntmps100
    go_wp2
    go_ret
    exact ⟨ret_strB (by rw [HV.out]; simp), below_box _ _⟩
  · have HV : Hid (valueL k n s.data.toList = Lib.itoa n) := by show _ = _; simp at g; simp [valueL, g]
    go_enter Tryz.func100, Tryz.ntmps100
    go_wp2_with (go_at_call 112; refine HI.out.mono ?_; rintro e w' ⟨rfl, kq, osq, rfl⟩)
    go_ret
    refine ⟨ret_strB (by rw [HV.out]), (below_box _ _).trans ((below_growN _ _ _).mono (by simp))⟩

theorem em_t {s : ByteArray} (h : s.toList.isEmpty = true) : s.data.toList = [] := by rw [ByteArray.toList_eq, List.isEmpty_iff] at h; exact h
theorem em_f {s : ByteArray} (h : s.toList.isEmpty = false) : s.data.toList ≠ [] := by
  rw [ByteArray.toList_eq] at h; intro e; rw [e] at h; simp at h
theorem eq_t {l : List UInt8} {s : ByteArray} (h : (l == s.toList) = true) : s.data.toList = l := by rw [ByteArray.toList_eq] at h; exact (beq_iff_eq.1 h).symm
theorem eq_f {l : List UInt8} {s : ByteArray} (h : (l == s.toList) = false) : s.data.toList ≠ l := by
  rw [ByteArray.toList_eq] at h; intro e; rw [e] at h; simp at h

def kindOfI (l : List UInt8) : Int := if l = [105, 110, 116] then 1 else if l = [116, 101, 120, 116] then 2 else 0

set_option maxHeartbeats 800000 in
theorem kindOf_any (s : ByteArray) (w : World) (hE : Env w) :
    Calls Tryz.prog 128 #[.string s] w fun e w' => e = .returned (.int .i64 (kindOfI s.data.toList)) ∧ w' = w := by
  have k0 := hE.k0
  have k1 := hE.k1
  have k2 := hE.k2
  clear hE
  go_enter Tryz.func128, Tryz.ntmps128
  go_wp2
  go_loop [4] (fun i => ∃ k : Nat, k ≤ 3 ∧ i = .int .i64 k ∧ (1 ≤ k → s.data.toList ≠ []) ∧ (2 ≤ k → s.data.toList ≠ [105, 110, 116]) ∧ (3 ≤ k → s.data.toList ≠ [116, 101, 120, 116])) (fun i => 3 - (intOf i).toNat)
  case atStart => exact ⟨0, by omega, rfl, by omega, by omega, by omega⟩
  case round =>
    obtain ⟨k, hk, rfl, h1, h2, h3⟩ := hrel
    have H1 := Hid.mk h1
    have H2 := Hid.mk h2
    have H3 := Hid.mk h3
    clear h1 h2 h3
    rcases (show k = 0 ∨ k = 1 ∨ k = 2 ∨ k = 3 by omega) with rfl | rfl | rfl | rfl
    · cases e : s.toList.isEmpty
      · go_wp2
        go_round
        case rel => exact ⟨1, by omega, rfl, fun _ => em_f e, by omega, by omega⟩
        case measure => simp [intOf]
      · go_wp2
        go_ret
        exact ⟨ret_int (by rw [em_t e]; rfl), rfl⟩
    · cases e : ([105, 110, 116] == s.toList)
      · go_wp2
        go_round
        case rel => exact ⟨2, by omega, rfl, fun _ => H1.out (by omega), fun _ => eq_f e, by omega⟩
        case measure => simp [intOf]
      · go_wp2
        go_ret
        exact ⟨ret_int (by rw [eq_t e]; rfl), rfl⟩
    · cases e : ([116, 101, 120, 116] == s.toList)
      · go_wp2
        go_round
        case rel => exact ⟨3, by omega, rfl, fun _ => H1.out (by omega), fun _ => H2.out (by omega), fun _ => eq_f e⟩
        case measure => simp [intOf]
      · go_wp2
        go_ret
        exact ⟨ret_int (by rw [eq_t e]; rfl), rfl⟩
    · go_wp2
      go_ret
      exact ⟨ret_int (by have h2 := H2.out (by omega); have h3 := H3.out (by omega); simp [kindOfI, h2, h3]), rfl⟩
end Go.Proofs.YtjceppinfjbegaaGreatDoor

namespace Go.Proofs.YtjceppinfjbegaaGreatDoor
open Go.RowKit

/-- What a text is read as, ahead of the look at what that is written as. -/
def readV (l : List UInt8) : Int × Int × List UInt8 :=
  if Lib.hasPrefix l [39] then (2, 0, Lib.trimSuffix (l.drop 1) [39]) else
  match Lib.atoiAll l with
  | .ok n => (1, n, [])
  | _ => (0, 0, [])
def parseV (l : List UInt8) : Option (Int × Int × List UInt8) :=
  if rightValueB (readV l).1 (readV l).2.1 (readV l).2.2 = true ∧ valueL (readV l).1 (readV l).2.1 (readV l).2.2 = l then some (readV l) else none

def vlOf (x : Int × Int × List UInt8) : Value := .agg #[.int .i64 x.1, .int .i64 x.2.1, .string ⟨x.2.2.toArray⟩]
def pvEnd : Option (Int × Int × List UInt8) → Value
  | some x => .tuple #[vlOf x, .nilIface]
  | none => .tuple #[.agg #[.int .i64 0, .int .i64 0, .string ⟨#[]⟩], .iface 40 (.int .i64 3)]

theorem num_end (x : Lib.NumEnd Int) : (∃ n, x = .ok n) ∨ x = Lib.atoiAll [] ∨ x = .range := by
  cases x
  · exact Or.inl ⟨_, rfl⟩
  · exact Or.inr (Or.inl rfl)
  · exact Or.inr (Or.inr rfl)
theorem atoi_ok (s : ByteArray) (w : World) (n : Int) (hs : s.size ≤ 1000000) (h : Lib.atoiAll s.data.toList = .ok n) :
    Calls Tryz.prog 158 #[.string s] w fun e w' => e = .returned (.tuple #[.int .i64 n, .nilIface]) ∧ Below w.heap.size w w' :=
  (Tryz.strconv_Atoi_ok s (by omega) n h w).mono fun _ _ x => ⟨x.1, by
    rcases x.2 with h | ⟨t, h⟩
    · rw [h]; exact Below.refl _ _
    · rw [h]; exact Joins.below_bytesWorld _ _ _ _ (Nat.le_refl _)⟩
theorem atoi_bad (s : ByteArray) (w : World) (hs : s.size ≤ 1000000) (h : ∀ n, Lib.atoiAll s.data.toList ≠ .ok n) (hE : Env w) :
    Calls Tryz.prog 158 #[.string s] w fun e w' => ∃ n t p, e = .returned (.tuple #[.int .i64 n, .iface t p]) ∧ Below w.heap.size w w' := by
  obtain ⟨t1, p1, h1⟩ := hE.es
  obtain ⟨t2, p2, h2⟩ := hE.er
  rcases num_end (Lib.atoiAll s.data.toList) with ⟨n, g⟩ | g | g
  · exact absurd g (h n)
  · exact (Tryz.strconv_Atoi_syntax_var s (by omega) g t1 p1 w h1).mono fun _ _ ⟨N, x, _, _, y⟩ => ⟨_, _, _, x, y⟩
  · exact (Tryz.strconv_Atoi_range_var s (by omega) g t2 p2 w h2).mono fun _ _ ⟨N, x, _, _, y⟩ => ⟨_, _, _, x, y⟩

theorem right_small {k n : Int} {l : List UInt8} (h : rightValueB k n l = true) : l.length ≤ 16 ∧ -1000000000 ≤ n ∧ n ≤ 1000000000 := by
  unfold rightValueB at h
  split at h
  · simp at h; rw [h.2.2]; exact ⟨by simp, h.1, h.2.1⟩
  · split at h
    · simp [rightWordB] at h; rw [h.2]; exact ⟨h.1.1, by omega, by omega⟩
    · simp at h

/-- The end of the walk: what was read is looked at, and written. -/
theorem pv_end {l : List UInt8} {x : Int × Int × List UInt8} (hr : readV l = x) : parseV l = if rightValueB x.1 x.2.1 x.2.2 = true ∧ valueL x.1 x.2.1 x.2.2 = l then some x else none := by
  subst hr; rfl

theorem pre_len {s : ByteArray} (hp : Lib.hasPrefix s.data.toList [39] = true) : 1 ≤ s.size := by
  have hz : s.data.toList.length = s.size := by simp
  cases h : s.data.toList with
  | nil => rw [h] at hp; simp [Lib.hasPrefix] at hp
  | cons c r => rw [h] at hz; simp at hz; omega

theorem trim_len (l : List UInt8) {n : Nat} (h : l.length ≤ n) : (Lib.trimSuffix l [39]).length ≤ n := by
  unfold Lib.trimSuffix
  split
  · rw [List.length_take]; omega
  · exact h

set_option maxHeartbeats 1600000 in
theorem parseValue_quote (s : ByteArray) (w : World) (hs : s.size ≤ 1000000) (hE : Env w) (hp : Lib.hasPrefix s.data.toList [39] = true) :
    Calls Tryz.prog 130 #[.string s] w fun e w' => e = .returned (pvEnd (parseV s.data.toList)) ∧ Below w.heap.size w w' := by
  have hl1 : 1 ≤ s.size := pre_len hp
  have hP := Tryz.strings_HasPrefix s ⟨#[39]⟩ ((w.alloc (.cells #[.int .i64 0, .int .i64 0, .string ⟨#[]⟩] 24)).alloc (.cells #[.int .i64 0, .int .i64 0, .string ⟨#[]⟩] 24))
  have hp' : Lib.hasPrefix s.data.toList (ByteArray.mk #[39]).data.toList = true := hp
  rw [hp'] at hP
  have HP := Hid.mk hP
  have HE := Hid.mk hE
  have hrd : readV s.data.toList = (2, 0, Lib.trimSuffix (s.data.toList.drop 1) [39]) := by simp [readV, hp]
  have HX := Hid.mk (pv_end hrd)
  clear hP hE hp hp' hrd
  have HT : Hid (List.take (s.size - 1) s.data.toList.tail = s.data.toList.drop 1) := by
    show _ = _
    rw [List.drop_one, List.take_of_length_le (by simp)]
  have hxl : (Lib.trimSuffix (s.data.toList.drop 1) [39]).length ≤ 1000000 := trim_len _ (by simp; omega)
  go_enter Tryz.func130, Tryz.ntmps130
  go_wp2_with (first | (go_at_call 156; refine HP.out.mono ?_; rintro e w' ⟨rfl, rfl⟩) | (go_at_call 157; refine (Tryz.strings_TrimSuffix _ _ _ (by simp; omega)).mono ?_; rintro e w' ⟨rfl, rfl⟩) | (go_at_call 116; fail))
  rw [HT.out]
  clear HT HP
  generalize Lib.trimSuffix (s.data.toList.drop 1) [39] = x at *
  have hq := rightValue_any 2 0 ⟨x.toArray⟩ ((w.alloc (.cells #[.int .i64 0, .int .i64 0, .string ⟨#[]⟩] 24)).alloc (.cells #[.int .i64 2, .int .i64 0, .string ⟨x.toArray⟩] 24)) (by unfold maxLen; simp [ByteArray.size]; omega)
  have hV := fun (w1 : World) (h1 : Env w1) (h2 : x.length ≤ 1000) => value_any 2 0 ⟨x.toArray⟩ w1 (by simpa [ByteArray.size] using h2) (by omega) (by omega) h1
  cases g : rightValueB 2 0 x
  · have hn : parseV s.data.toList = none := by rw [HX.out]; simp [g]
    rw [show rightValueB 2 0 (ByteArray.mk x.toArray).data.toList = false from g] at hq
    have HN := Hid.mk hn
    clear hn HX hV
    refine hq.mono ?_
    rintro e w1 ⟨rfl, hb1⟩
    obtain ⟨hc1, hf1⟩ := bcell hb1
    go_wp2
    have hz : w.heap.size + 1 < w1.heap.size := by have := hb1.size; simp at this; omega
    have c0 : w1.cell? ⟨w.heap.size, 0, none⟩ = some (.int .i64 0) := (hc1 _ _ (by simp; omega)).trans (by simp)
    have c1 : w1.cell? ⟨w.heap.size, 1, none⟩ = some (.int .i64 0) := (hc1 _ _ (by simp; omega)).trans (by simp)
    have c2 : w1.cell? ⟨w.heap.size, 2, none⟩ = some (.string ⟨#[]⟩) := (hc1 _ _ (by simp; omega)).trans (by simp)
    clear hc1 hf1
    refine bodyPost_ret (v := pvEnd none) (by simp [results, Tryz.results130, go_sem, c0, c1, c2, pvEnd]) rfl ⟨by rw [HN.out], ?_⟩
    exact (((((below_box _ _).alloc (by simp) _).trans (hb1.mono (by simp; omega))).setCell (by simp) _).setCell (by simp) _).setCell (by simp) _
  · rw [show rightValueB 2 0 (ByteArray.mk x.toArray).data.toList = true from g] at hq
    have hl16 := (right_small g).1
    have h2 : ∀ w1, Env w1 → _ := fun w1 h => hV w1 h (by omega)
    have HV := Hid.mk h2
    clear h2 hV
    refine hq.mono ?_
    rintro e w1 ⟨rfl, hb1⟩
    obtain ⟨hc1, hf1⟩ := bcell hb1
    have hE1 : Env w1 := (HE.out.below ((below_box w _).alloc (by simp) _)).below hb1
    have HE1 := Hid.mk hE1
    have hz : w.heap.size + 1 < w1.heap.size := by have := hb1.size; simp at this; omega
    have hz0 : w.heap.size < w1.heap.size := by omega
    clear hq hE1
    cases g2 : (valueL 2 0 x == s.toList)
    · have hn : parseV s.data.toList = none := by
        rw [HX.out, if_neg]
        rintro ⟨-, h⟩
        rw [ByteArray.toList_eq] at g2
        simp [h] at g2
      have HN := Hid.mk hn
      clear hn HX
      go_wp2_with (go_at_call 100; refine (HV.out _ HE1.out).mono ?_; rintro e w2 ⟨rfl, hb2⟩; obtain ⟨hc2, hf2⟩ := bcell hb2)
      have c0 : w2.cell? ⟨w.heap.size, 0, none⟩ = some (.int .i64 0) := (hc2 _ _ hz0).trans ((hc1 _ _ (by simp; omega)).trans (by simp))
      have c1 : w2.cell? ⟨w.heap.size, 1, none⟩ = some (.int .i64 0) := (hc2 _ _ hz0).trans ((hc1 _ _ (by simp; omega)).trans (by simp))
      have c2 : w2.cell? ⟨w.heap.size, 2, none⟩ = some (.string ⟨#[]⟩) := (hc2 _ _ hz0).trans ((hc1 _ _ (by simp; omega)).trans (by simp))
      clear hc1 hf1 hc2 hf2
      refine bodyPost_ret (v := pvEnd none) (by simp [results, Tryz.results130, go_sem, c0, c1, c2, pvEnd]) rfl ⟨by rw [HN.out], ?_⟩
      exact ((((((below_box _ _).alloc (by simp) _).trans (hb1.mono (by simp; omega))).trans (hb2.mono (by omega))).setCell (by simp) _).setCell (by simp) _).setCell (by simp) _
    · have hn : parseV s.data.toList = some (2, 0, x) := by
        rw [HX.out, if_pos]
        rw [ByteArray.toList_eq] at g2
        exact ⟨g, by simpa using g2⟩
      have HN := Hid.mk hn
      clear hn HX
      go_wp2_with (go_at_call 100; refine (HV.out _ HE1.out).mono ?_; rintro e w2 ⟨rfl, hb2⟩; obtain ⟨hc2, hf2⟩ := bcell hb2)
      have c0 : w2.cell? ⟨w.heap.size, 0, none⟩ = some (.int .i64 0) := (hc2 _ _ hz0).trans ((hc1 _ _ (by simp; omega)).trans (by simp))
      have c1 : w2.cell? ⟨w.heap.size, 1, none⟩ = some (.int .i64 0) := (hc2 _ _ hz0).trans ((hc1 _ _ (by simp; omega)).trans (by simp))
      have c2 : w2.cell? ⟨w.heap.size, 2, none⟩ = some (.string ⟨#[]⟩) := (hc2 _ _ hz0).trans ((hc1 _ _ (by simp; omega)).trans (by simp))
      clear hc1 hf1 hc2 hf2
      refine bodyPost_ret (v := pvEnd (some (2, 0, x))) (by simp [results, Tryz.results130, go_sem, c0, c1, c2, pvEnd, vlOf]) rfl ⟨by rw [HN.out], ?_⟩
      exact ((((((below_box _ _).alloc (by simp) _).trans (hb1.mono (by simp; omega))).trans (hb2.mono (by omega))).setCell (by simp) _).setCell (by simp) _).setCell (by simp) _
end Go.Proofs.YtjceppinfjbegaaGreatDoor

