import Derived.Test.YtoncleppenggaaaGreatDoorWalkD
import Derived.Test.YtoncleppenggaaaGreatDoorShelf
import Derived.Lib.QuietBelow
import Derived.Lib.SmallJoins
set_option linter.unusedSimpArgs false
set_option linter.unusedVariables false
namespace Go.Proofs.YtoncleppenggaaaGreatDoor
open Go.RowKit

theorem bcell {W w1 : World} (hb : Below W.heap.size W w1) : (∀ b o, b < W.heap.size → w1.cell? ⟨b, o, none⟩ = W.cell? ⟨b, o, none⟩) ∧ (∀ b o, b < W.heap.size → w1.frozen? ⟨b, o, none⟩ = W.frozen? ⟨b, o, none⟩) :=
  ⟨fun b o h => hb.cell (p := ⟨b, o, none⟩) h, fun b o h => hb.frozen (p := ⟨b, o, none⟩) h⟩

theorem toBelow {P : Program} {f : FuncId} {args : Array Value} {w : World} {v : Value} (h : Calls P f args w fun e w' => e = .returned v ∧ w' = w) : Calls P f args w fun e w' => e = .returned v ∧ Below w.heap.size w w' :=
  h.mono fun _ _ x => ⟨x.1, by rw [x.2]; exact Below.refl _ _⟩

def kindB (n : Int) : Bool := n == 1 || n == 2
def colsOK (seen : List (ByteArray × Int)) : List (ByteArray × Int) → Bool
  | [] => true
  | c :: r => nameB c.1.data.toList && (kindB c.2 && (!calledB seen c.1.data.toList && colsOK (seen ++ [c]) r))
def rightColsB (cs : List (ByteArray × Int)) : Bool := decide (1 ≤ cs.length) && (decide (cs.length ≤ 6) && colsOK [] cs)

theorem colsOK_step (cs : List (ByteArray × Int)) (k : Nat) (h : k < cs.length) : colsOK (cs.take k) (cs.drop k) = (nameB cs[k].1.data.toList && (kindB cs[k].2 && (!calledB (cs.take k) cs[k].1.data.toList && colsOK (cs.take (k + 1)) (cs.drop (k + 1))))) := by
  rw [List.drop_eq_getElem_cons h, List.take_succ_eq_append_getElem h]; rfl

theorem ColsAt.take {w : World} {b o : Nat} {cs : List (ByteArray × Int)} (h : ColsAt w b o cs) (k : Nat) : ColsAt w b o (cs.take k) := fun j hj => by
  have hj' : j < cs.length := by rw [List.length_take] at hj; omega
  have := h j hj'
  rw [List.getElem_take]; exact this

theorem rkindB_any (n : Int) (w : World) : Calls Tryz.prog 66 #[.int .i64 n] w fun e w' => e = .returned (.bool (kindB n)) ∧ w' = w := rkind_any n w

set_option maxHeartbeats 1600000 in
theorem rightCols_in (b o n c : Nat) (cs : List (ByteArray × Int)) (w : World) (hn : cs.length = n) (h1 : 1 ≤ n) (h6 : n ≤ 6) (hcap : n ≤ c) (hb : b < w.heap.size) (hc : ColsAt w b o cs) (hs : ∀ x ∈ cs, x.1.size ≤ maxLen) :
    Calls Tryz.prog 41 #[.slice (some ⟨b, o, none⟩) n c] w fun e w' => e = .returned (.bool (rightColsB cs)) ∧ Below w.heap.size w w' := by
  have hr : rightColsB cs = colsOK [] cs := by simp [rightColsB, hn, h1, h6]
  have HR := Hid.mk hr
  have HN := Hid.mk hn
  clear hr hn
  have e0 : ((n : Int) == 0) = false := by simp; omega
  go_enter Tryz.func41, Tryz.ntmps41
  go_wp2
  go_loopw [15] (fun i wr => ∃ k : Nat, k ≤ n ∧ i = .int .i64 k ∧ colsOK [] cs = colsOK (cs.take k) (cs.drop k) ∧ Below w.heap.size w wr) (fun i _ => n - (intOf i).toNat)
  case atStart => exact ⟨0, Nat.zero_le _, rfl, rfl, Below.refl _ _⟩
  case round =>
    obtain ⟨k, hk, rfl, hal, hnx⟩ := hrel
    have HA := Hid.mk hal
    clear hal
    by_cases hlt : k < n
    · have hk2 : k < cs.length := by have := HN.out; omega
      obtain ⟨c1, c2⟩ := hc k hk2
      have d1 := (hnx.cell (p := ⟨b, o + k * 2, none⟩) hb).trans c1
      have d2 := (hnx.cell (p := ⟨b, o + k * 2 + 1, none⟩) hb).trans c2
      clear c1 c2
      have hbr : b < wr.heap.size := by have := hnx.size; omega
      have hsk : cs[k].1.size ≤ maxLen := hs _ (List.getElem_mem hk2)
      have hct : ColsAt wr b o (cs.take k) := (hc.below hnx hb).take k
      have hlk : (cs.take k).length = k := by rw [List.length_take]; omega
      have HLK := Hid.mk hlk
      clear hlk
      have HS := Hid.mk (colsOK_step cs k hk2)
      have k1 := cell_regrown (w := wr.alloc (.cells #[.string cs[k].1, .int .i64 cs[k].2] 48)) (a := ⟨wr.heap.size, 0, none⟩) (v := .string cs[k].1) (by simp)
      have k2 := cell_regrown (w := wr.alloc (.cells #[.string cs[k].1, .int .i64 cs[k].2] 48)) (a := ⟨wr.heap.size, 1, none⟩) (v := .int .i64 cs[k].2) (by simp)
      have cN : ∀ d os, _ := fun d os => Calls.regrown_of (name_any cs[k].1 (Sort.grow (redrawn (wr.alloc (.cells #[.string cs[k].1, .int .i64 cs[k].2] 48)) d) os) hsk)
      have cK : ∀ d os, _ := fun d os => Calls.regrown_of (toBelow (rkindB_any cs[k].2 (Sort.grow (redrawn (wr.alloc (.cells #[.string cs[k].1, .int .i64 cs[k].2] 48)) d) os)))
      have cC : ∀ d os, _ := fun d os => Calls.regrown_of (called_any b o k c (cs.take k) cs[k].1 (Sort.grow (redrawn (wr.alloc (.cells #[.string cs[k].1, .int .i64 cs[k].2] 48)) d) os) HLK.out (by omega) (by simp [Sort.grow, redrawn]; omega) ((hct.below (below_box _ _) hbr).below (below_regrown _ _ _) (by simp; omega)))
      cases g1 : nameB cs[k].1.data.toList
      · simp only [g1] at cN
        go_wp2
        refine wp_region_quiet_below (by kernel_rfl) (by kernel_rfl) ?_
        repeat (any_goals (first | go_big_quiet_step (first | exact cN _ _ | exact cK _ _ | exact cC _ _) | quiet_step (first | exact cN _ _ | exact cK _ _ | exact cC _ _)))
        refine wpQuiet_nil ?_
        intro _ hw'
        obtain ⟨⟨dq, osq⟩, hw''⟩ := hw'
        subst hw''
        go_wp2
        go_ret
        exact ⟨ret_bool (by rw [HR.out, HA.out, HS.out, g1]; rfl), hnx.trans ((below_box _ _).mono hnx.size |>.trans ((below_regrown _ dq osq).mono (by simp; have := hnx.size; omega)))⟩
      · simp only [g1] at cN
        cases g2 : kindB cs[k].2
        · simp only [g2] at cK
          go_wp2
          refine wp_region_quiet_below (by kernel_rfl) (by kernel_rfl) ?_
          repeat (any_goals (first | go_big_quiet_step (first | exact cN _ _ | exact cK _ _ | exact cC _ _) | quiet_step (first | exact cN _ _ | exact cK _ _ | exact cC _ _)))
          refine wpQuiet_nil ?_
          intro _ hw'
          obtain ⟨⟨dq, osq⟩, hw''⟩ := hw'
          subst hw''
          go_wp2
          go_ret
          exact ⟨ret_bool (by rw [HR.out, HA.out, HS.out, g1, g2]; rfl), hnx.trans ((below_box _ _).mono hnx.size |>.trans ((below_regrown _ dq osq).mono (by simp; have := hnx.size; omega)))⟩
        · simp only [g2] at cK
          have hsl : (k : Int) ≤ (c : Int) := by omega
          cases g3 : calledB (cs.take k) cs[k].1.data.toList
          all_goals simp only [g3] at cC
          all_goals
            go_wp2
            refine wp_region_quiet_below (by kernel_rfl) (by kernel_rfl) ?_
            repeat (any_goals (first | go_big_quiet_step (first | exact cN _ _ | exact cK _ _ | exact cC _ _) | quiet_step (first | exact cN _ _ | exact cK _ _ | exact cC _ _)))
            refine wpQuiet_nil ?_
            intro _ hw'
            obtain ⟨⟨dq, osq⟩, hw''⟩ := hw'
            subst hw''
          · go_wp2
            go_roundw
            case rel => exact ⟨k + 1, by omega, by go_num, by rw [HA.out, HS.out, g1, g2, g3]; rfl, hnx.trans ((below_box _ _).mono hnx.size |>.trans ((below_regrown _ dq osq).mono (by simp; have := hnx.size; omega)))⟩
            case measure => simp [intOf]; omega
          · go_wp2
            go_ret
            exact ⟨ret_bool (by rw [HR.out, HA.out, HS.out, g1, g2, g3]; rfl), hnx.trans ((below_box _ _).mono hnx.size |>.trans ((below_regrown _ dq osq).mono (by simp; have := hnx.size; omega)))⟩
    · go_wp2
      go_ret
      exact ⟨ret_bool (by rw [HR.out, HA.out, List.drop_eq_nil_of_le (by have := HN.out; omega)]; rfl), hnx⟩
end Go.Proofs.YtoncleppenggaaaGreatDoor

namespace Go.Proofs.YtoncleppenggaaaGreatDoor
open Go.RowKit

abbrev Vl := Int × Int × ByteArray
abbrev Cl := ByteArray × Int

/-- Where a row of values lies. -/
def ValsAt (w : World) (b o : Nat) (vs : List Vl) : Prop :=
  ∀ (j : Nat) (h : j < vs.length), w.cell? ⟨b, o + j * 3, none⟩ = some (.int .i64 vs[j].1) ∧ w.cell? ⟨b, o + j * 3 + 1, none⟩ = some (.int .i64 vs[j].2.1) ∧ w.cell? ⟨b, o + j * 3 + 2, none⟩ = some (.string vs[j].2.2)

theorem ValsAt.below {w w' : World} {B b o : Nat} {vs : List Vl} (h : ValsAt w b o vs) (hb : Below B w w') (hB : b < B) : ValsAt w' b o vs :=
  fun j hj => ⟨(hb.cell (p := ⟨b, o + j * 3, none⟩) hB).trans (h j hj).1, (hb.cell (p := ⟨b, o + j * 3 + 1, none⟩) hB).trans (h j hj).2.1, (hb.cell (p := ⟨b, o + j * 3 + 2, none⟩) hB).trans (h j hj).2.2⟩

def ColsIs (w : World) (v : Value) (cs : List Cl) : Prop :=
  ∃ a c, v = .slice a cs.length c ∧ cs.length ≤ c ∧ (∀ x ∈ cs, x.1.size ≤ maxLen) ∧ (cs = [] ∨ ∃ b o, a = some ⟨b, o, none⟩ ∧ b < w.heap.size ∧ ColsAt w b o cs)
def RowIs (w : World) (v : Value) (vs : List Vl) : Prop :=
  ∃ a c, v = .slice a vs.length c ∧ (∀ x ∈ vs, x.2.2.size ≤ maxLen) ∧ (vs = [] ∨ ∃ b o, a = some ⟨b, o, none⟩ ∧ b < w.heap.size ∧ ValsAt w b o vs)
def RowsAt (w : World) (b o : Nat) (rs : List (List Vl)) : Prop := ∀ (j : Nat) (h : j < rs.length), ∃ u, w.cell? ⟨b, o + j, none⟩ = some u ∧ RowIs w u rs[j]
def RowsIs (w : World) (v : Value) (rs : List (List Vl)) : Prop :=
  ∃ a c, v = .slice a rs.length c ∧ (rs = [] ∨ ∃ b o, a = some ⟨b, o, none⟩ ∧ b < w.heap.size ∧ RowsAt w b o rs)

theorem ColsIs.below {w w' : World} {v : Value} {cs : List Cl} (h : ColsIs w v cs) (hb : Below w.heap.size w w') : ColsIs w' v cs := by
  obtain ⟨a, c, e, hc, hs, h⟩ := h
  refine ⟨a, c, e, hc, hs, ?_⟩
  rcases h with h | ⟨b, o, e2, hl, hat⟩
  · exact Or.inl h
  · exact Or.inr ⟨b, o, e2, Nat.lt_of_lt_of_le hl hb.size, hat.below hb hl⟩
theorem RowIs.below {w w' : World} {v : Value} {vs : List Vl} (h : RowIs w v vs) (hb : Below w.heap.size w w') : RowIs w' v vs := by
  obtain ⟨a, c, e, hs, h⟩ := h
  refine ⟨a, c, e, hs, ?_⟩
  rcases h with h | ⟨b, o, e2, hl, hat⟩
  · exact Or.inl h
  · exact Or.inr ⟨b, o, e2, Nat.lt_of_lt_of_le hl hb.size, hat.below hb hl⟩
theorem RowsAt.below {w w' : World} {b o : Nat} {rs : List (List Vl)} (h : RowsAt w b o rs) (hb : Below w.heap.size w w') (hl : b < w.heap.size) : RowsAt w' b o rs := fun j hj => by
  obtain ⟨u, h1, h2⟩ := h j hj
  exact ⟨u, (hb.cell (p := ⟨b, o + j, none⟩) hl).trans h1, h2.below hb⟩
theorem RowsIs.below {w w' : World} {v : Value} {rs : List (List Vl)} (h : RowsIs w v rs) (hb : Below w.heap.size w w') : RowsIs w' v rs := by
  obtain ⟨a, c, e, h⟩ := h
  refine ⟨a, c, e, ?_⟩
  rcases h with h | ⟨b, o, e2, hl, hat⟩
  · exact Or.inl h
  · exact Or.inr ⟨b, o, e2, Nat.lt_of_lt_of_le hl hb.size, hat.below hb hl⟩

set_option maxHeartbeats 400000 in
theorem rightCols_any (v : Value) (cs : List Cl) (w : World) (h : ColsIs w v cs) :
    Calls Tryz.prog 41 #[v] w fun e w' => e = .returned (.bool (rightColsB cs)) ∧ Below w.heap.size w w' := by
  obtain ⟨a, c, rfl, hc, hs, h⟩ := h
  by_cases h1 : 1 ≤ cs.length
  · by_cases h6 : cs.length ≤ 6
    · rcases h with h | ⟨b, o, rfl, hl, hat⟩
      · rw [h] at h1; simp at h1
      · exact rightCols_in b o cs.length c cs w rfl h1 h6 hc hl hat hs
    · have hr : rightColsB cs = false := by simp [rightColsB, h6]
      rw [hr]
      clear hr h hs
      generalize cs.length = n at *
      have e0 : ((n : Int) == 0) = false := by simp; omega
      go_enter Tryz.func41, Tryz.ntmps41
      go_wp2
      go_ret
      exact ⟨rfl, Below.refl _ _⟩
  · have hr : rightColsB cs = false := by simp [rightColsB, h1]
    have h0 : cs.length = 0 := by omega
    rw [hr, h0]
    clear hr h hs h0
    go_enter Tryz.func41, Tryz.ntmps41
    go_wp2
    go_ret
    exact ⟨rfl, Below.refl _ _⟩

def rvB (x : Vl) : Bool := rightValueB x.1 x.2.1 x.2.2.data.toList
def rowOK : List Vl → List Cl → Bool
  | [], [] => true
  | v :: r, c :: q => v.1 == c.2 && (rvB v && rowOK r q)
  | _, _ => false

theorem rowOK_lens : ∀ (vs : List Vl) (cs : List Cl), vs.length ≠ cs.length → rowOK vs cs = false
  | [], [], h => absurd rfl h
  | [], _ :: _, _ => rfl
  | _ :: _, [], _ => rfl
  | v :: r, c :: q, h => by
    rw [rowOK, rowOK_lens r q (by simpa using h)]; simp
theorem rowOK_step (vs : List Vl) (cs : List Cl) (k : Nat) (h : k < vs.length) (h' : k < cs.length) : rowOK (vs.drop k) (cs.drop k) = (vs[k].1 == cs[k].2 && (rvB vs[k] && rowOK (vs.drop (k + 1)) (cs.drop (k + 1)))) := by
  rw [List.drop_eq_getElem_cons h, List.drop_eq_getElem_cons h']; rfl

theorem rightValue_vl (x : Vl) (w : World) (hs : x.2.2.size ≤ maxLen) :
    Calls Tryz.prog 115 #[.agg #[.int .i64 x.1, .int .i64 x.2.1, .string x.2.2]] w fun e w' => e = .returned (.bool (rvB x)) ∧ Below w.heap.size w w' := rightValue_any _ _ _ _ hs

end Go.Proofs.YtoncleppenggaaaGreatDoor

namespace Go.Proofs.YtoncleppenggaaaGreatDoor
open Go.RowKit

def rightB (cs : List Cl) (rs : List (List Vl)) : Bool := rightColsB cs && (decide (rs.length ≤ 60) && rs.all fun r => rowOK r cs)

theorem rightCols_len {cs : List Cl} (h : rightColsB cs = true) : 1 ≤ cs.length ∧ cs.length ≤ 6 := by
  simp [rightColsB] at h; exact ⟨by omega, h.2.1⟩
theorem all_step {p : List Vl → Bool} {rs : List (List Vl)} {k : Nat} (h : k < rs.length) (ht : (rs.take k).all p = true) (hp : p rs[k] = true) : (rs.take (k + 1)).all p = true := by
  rw [List.take_succ_eq_append_getElem h, List.all_append, ht]; simp [hp]
theorem all_false {p : List Vl → Bool} {rs : List (List Vl)} {k : Nat} (h : k < rs.length) (hp : p rs[k] = false) : rs.all p = false := by
  rw [List.all_eq_false]; exact ⟨_, List.getElem_mem h, by simp [hp]⟩

end Go.Proofs.YtoncleppenggaaaGreatDoor

namespace Go.Proofs.YtoncleppenggaaaGreatDoor
open Go.RowKit

theorem below_growN (w : World) (k : Nat) (os : Array Obj) : Below w.heap.size w (Sort.grow (w.drewN k) os) :=
  ⟨rfl, rfl, rfl, by simp [Sort.grow, World.drewN], fun k hk => by simp [Sort.grow, World.drewN, Array.getElem?_append, hk]⟩

theorem ret_strB {x : ByteArray} {l : List UInt8} (h : x.data.toList = l) : Ending.returned (.string x) = .returned (.string ⟨l.toArray⟩) := by rw [str_of h]

/-- What a value is written as. -/
def valueL (k n : Int) (l : List UInt8) : List UInt8 := if k = 1 then Lib.itoa n else 39 :: (l ++ [39])

theorem strcat_data (a b : ByteArray) : (a ++ b).data.toList = a.data.toList ++ b.data.toList := by simp

theorem em_t {s : ByteArray} (h : s.toList.isEmpty = true) : s.data.toList = [] := by rw [ByteArray.toList_eq, List.isEmpty_iff] at h; exact h
theorem em_f {s : ByteArray} (h : s.toList.isEmpty = false) : s.data.toList ≠ [] := by
  rw [ByteArray.toList_eq] at h; intro e; rw [e] at h; simp at h
theorem eq_t {l : List UInt8} {s : ByteArray} (h : (l == s.toList) = true) : s.data.toList = l := by rw [ByteArray.toList_eq] at h; exact (beq_iff_eq.1 h).symm
theorem eq_f {l : List UInt8} {s : ByteArray} (h : (l == s.toList) = false) : s.data.toList ≠ l := by
  rw [ByteArray.toList_eq] at h; intro e; rw [e] at h; simp at h

def kindOfI (l : List UInt8) : Int := if l = [105, 110, 116] then 1 else if l = [116, 101, 120, 116] then 2 else 0

end Go.Proofs.YtoncleppenggaaaGreatDoor

namespace Go.Proofs.YtoncleppenggaaaGreatDoor
open Go.RowKit

/-- What a text is read as, ahead of the look at what that is written as. -/
def readV (l : List UInt8) : Int × Int × List UInt8 :=
  if Lib.hasPrefix l [39] then (2, 0, Lib.trimSuffix (l.drop 1) [39]) else
  match Lib.atoiAll l with
  | .ok n => (1, n, [])
  | _ => (0, 0, [])
def parseV (l : List UInt8) : Option (Int × Int × List UInt8) :=
  if rightValueB (readV l).1 (readV l).2.1 (readV l).2.2 = true ∧ valueL (readV l).1 (readV l).2.1 (readV l).2.2 = l then some (readV l) else none

def vlOf (x : Int × Int × List UInt8) : Value := .agg #[.int .i64 x.1, .int .i64 x.2.1, .string ⟨x.2.2.toArray⟩]
def pvEnd : Option (Int × Int × List UInt8) → Value
  | some x => .tuple #[vlOf x, .nilIface]
  | none => .tuple #[.agg #[.int .i64 0, .int .i64 0, .string ⟨#[]⟩], .iface 62 (.int .i64 3)]

theorem num_end (x : Lib.NumEnd Int) : (∃ n, x = .ok n) ∨ x = Lib.atoiAll [] ∨ x = .range := by
  cases x
  · exact Or.inl ⟨_, rfl⟩
  · exact Or.inr (Or.inl rfl)
  · exact Or.inr (Or.inr rfl)
theorem atoi_ok (s : ByteArray) (w : World) (n : Int) (hs : s.size ≤ 1000000) (h : Lib.atoiAll s.data.toList = .ok n) :
    Calls Tryz.prog 103 #[.string s] w fun e w' => e = .returned (.tuple #[.int .i64 n, .nilIface]) ∧ Below w.heap.size w w' :=
  (Tryz.strconv_Atoi_ok s (by omega) n h w).mono fun _ _ x => ⟨x.1, by
    rcases x.2 with h | ⟨t, h⟩
    · rw [h]; exact Below.refl _ _
    · rw [h]; exact Joins.below_bytesWorld _ _ _ _ (Nat.le_refl _)⟩
theorem right_small {k n : Int} {l : List UInt8} (h : rightValueB k n l = true) : l.length ≤ 16 ∧ -1000000000 ≤ n ∧ n ≤ 1000000000 := by
  unfold rightValueB at h
  split at h
  · simp at h; rw [h.2.2]; exact ⟨by simp, h.1, h.2.1⟩
  · split at h
    · simp [rightWordB] at h; rw [h.2]; exact ⟨h.1.1, by omega, by omega⟩
    · simp at h

/-- The end of the walk: what was read is looked at, and written. -/
theorem pv_end {l : List UInt8} {x : Int × Int × List UInt8} (hr : readV l = x) : parseV l = if rightValueB x.1 x.2.1 x.2.2 = true ∧ valueL x.1 x.2.1 x.2.2 = l then some x else none := by
  subst hr; rfl

theorem pre_len {s : ByteArray} (hp : Lib.hasPrefix s.data.toList [39] = true) : 1 ≤ s.size := by
  have hz : s.data.toList.length = s.size := by simp
  cases h : s.data.toList with
  | nil => rw [h] at hp; simp [Lib.hasPrefix] at hp
  | cons c r => rw [h] at hz; simp at hz; omega

theorem trim_len (l : List UInt8) {n : Nat} (h : l.length ≤ n) : (Lib.trimSuffix l [39]).length ≤ n := by
  unfold Lib.trimSuffix
  split
  · rw [List.length_take]; omega
  · exact h

end Go.Proofs.YtoncleppenggaaaGreatDoor

