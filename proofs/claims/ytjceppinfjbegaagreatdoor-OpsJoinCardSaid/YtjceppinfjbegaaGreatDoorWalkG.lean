import Derived.Test.YtjceppinfjbegaaGreatDoorWalkC
import Derived.Test.YtjceppinfjbegaaGreatDoorShelf
import Derived.Lib.QuietBelow
set_option linter.unusedSimpArgs false
set_option linter.unusedVariables false
namespace Go.Proofs.YtjceppinfjbegaaGreatDoor
open Go.RowKit

/-- Where a list of columns lies. -/
def ColsAt (w : World) (b o : Nat) (cs : List (ByteArray × Int)) : Prop :=
  ∀ (j : Nat) (h : j < cs.length), w.cell? ⟨b, o + j * 2, none⟩ = some (.string cs[j].1) ∧ w.cell? ⟨b, o + j * 2 + 1, none⟩ = some (.int .i64 cs[j].2)

theorem Hid.mk {p : Prop} (h : p) : Hid p := h

theorem ColsAt.below {w w' : World} {B b o : Nat} {cs : List (ByteArray × Int)} (h : ColsAt w b o cs) (hb : Below B w w') (hB : b < B) : ColsAt w' b o cs :=
  fun j hj => ⟨(hb.cell (p := ⟨b, o + j * 2, none⟩) hB).trans (h j hj).1, (hb.cell (p := ⟨b, o + j * 2 + 1, none⟩) hB).trans (h j hj).2⟩

def calledB (cs : List (ByteArray × Int)) (nm : List UInt8) : Bool := cs.any fun x => x.1.data.toList == nm

theorem called_snoc (cs : List (ByteArray × Int)) (nm : List UInt8) (k : Nat) (h : k < cs.length) : calledB (cs.take (k + 1)) nm = (calledB (cs.take k) nm || cs[k].1.data.toList == nm) := by
  rw [List.take_succ_eq_append_getElem h]; simp only [calledB, List.any_append, List.any_cons, List.any_nil, Bool.or_false]
theorem called_true (cs : List (ByteArray × Int)) (nm : List UInt8) (k : Nat) (h : k < cs.length) (hp : (cs[k].1.data.toList == nm) = true) : calledB cs nm = true := by
  unfold calledB
  rw [List.any_eq_true]
  exact ⟨_, List.getElem_mem h, hp⟩

set_option maxHeartbeats 400000 in
theorem called_any (b o n c : Nat) (cs : List (ByteArray × Int)) (nm : ByteArray) (w : World) (hn : cs.length = n) (hn' : n ≤ 100) (hb : b < w.heap.size) (hc : ColsAt w b o cs) :
    Calls Tryz.prog 115 #[.slice (some ⟨b, o, none⟩) n c, .string nm] w fun e w' => e = .returned (.bool (calledB cs nm.data.toList)) ∧ Below w.heap.size w w' := by
  have HN : Hid (cs.length = n) := hn
  clear hn
  go_enter Tryz.func115, Tryz.ntmps115
  go_wp2
  go_loopw [9] (fun i wr => ∃ k : Nat, k ≤ n ∧ i = .int .i64 k ∧ calledB (cs.take k) nm.data.toList = false ∧ Below w.heap.size w wr) (fun i _ => n - (intOf i).toNat)
  case atStart => exact ⟨0, Nat.zero_le _, rfl, rfl, Below.refl _ _⟩
  case round =>
    obtain ⟨k, hk, rfl, hal, hnx⟩ := hrel
    have HA : Hid (calledB (cs.take k) nm.data.toList = false) := hal
    clear hal
    by_cases hlt : k < n
    · have hk2 : k < cs.length := by have := HN.out; omega
      obtain ⟨c1, c2⟩ := hc k hk2
      have d1 := (hnx.cell (p := ⟨b, o + k * 2, none⟩) hb).trans c1
      have d2 := (hnx.cell (p := ⟨b, o + k * 2 + 1, none⟩) hb).trans c2
      clear c1 c2
      cases hp : (cs[k].1.toList == nm.toList)
      all_goals have hq := hp
      all_goals rw [ByteArray.toList_eq, ByteArray.toList_eq] at hq
      all_goals have HQ := Hid.mk hq
      all_goals clear hq
      · go_wp2
        go_roundw
        case rel => exact ⟨k + 1, by omega, by go_num, by rw [called_snoc cs _ k hk2, HA.out, HQ.out]; rfl, hnx.alloc hnx.size _⟩
        case measure => simp [intOf]; omega
      · go_wp2
        go_ret
        exact ⟨ret_bool (called_true cs _ k hk2 HQ.out).symm, hnx.alloc hnx.size _⟩
    · go_wp2
      go_ret
      exact ⟨ret_bool (by have := HA.out; rw [List.take_of_length_le (by have := HN.out; omega)] at this; exact this.symm), hnx⟩

/-- A row's text, cut at its first blank that does not lie between two quotes. -/
def cutV (q : Bool) : List UInt8 → List UInt8 × List UInt8 × Bool
  | [] => ([], [], false)
  | c :: r =>
    if c = 39 then (c :: (cutV (!q) r).1, (cutV (!q) r).2) else
    if c = 32 ∧ q = false then ([], r, true) else (c :: (cutV q r).1, (cutV q r).2)

theorem str_of {x : ByteArray} {a : List UInt8} (h : x.data.toList = a) : x = ⟨a.toArray⟩ := by rw [← h]
theorem ret3s {x y : ByteArray} {m m' : Bool} {a b : List UInt8} (h1 : x.data.toList = a) (h2 : y.data.toList = b) (h3 : m = m') : Ending.returned (.tuple #[.string x, .string y, .bool m]) = .returned (.tuple #[.string ⟨a.toArray⟩, .string ⟨b.toArray⟩, .bool m']) := by
  rw [str_of h1, str_of h2, h3]
theorem extract_take (s : ByteArray) (k : Nat) : (s.extract 0 k).data.toList = s.data.toList.take k := by simp [ByteArray.data_extract]
theorem extract_drop (s : ByteArray) (k : Nat) : (s.extract k s.size).data.toList = s.data.toList.drop k := by
  simp only [ByteArray.data_extract, Array.toList_extract]
  rw [List.extract_eq_take_drop, List.take_of_length_le (by simp)]

/-- What is told so far. -/
def cutTo (l : List UInt8) (k : Nat) (q : Bool) : Prop := cutV false l = (l.take k ++ (cutV q (l.drop k)).1, (cutV q (l.drop k)).2)

theorem cutTo_zero (l : List UInt8) : cutTo l 0 false := by simp [cutTo]
theorem drop_at (s : ByteArray) (k : Nat) (h : k < s.size) : s.data.toList.drop k = s[k] :: s.data.toList.drop (k + 1) := by
  rw [List.drop_eq_getElem_cons (by simpa using h)]; rfl
theorem cutTo_quote {s : ByteArray} {k : Nat} {q : Bool} (h : k < s.size) (hc : s[k] = 39) (ht : cutTo s.data.toList k q) : cutTo s.data.toList (k + 1) (!q) := by
  unfold cutTo at ht ⊢
  rw [ht, drop_at s k h, take_snoc s k h]; simp [cutV, hc]
theorem cutTo_other {s : ByteArray} {k : Nat} {q : Bool} (h : k < s.size) (hc : s[k] ≠ 39) (hb : ¬ (s[k] = 32 ∧ q = false)) (ht : cutTo s.data.toList k q) : cutTo s.data.toList (k + 1) q := by
  unfold cutTo at ht ⊢
  rw [ht, drop_at s k h, take_snoc s k h]; simp only [cutV, hc, hb, if_false, List.append_assoc]; rfl
theorem cutTo_blank {s : ByteArray} {k : Nat} {q : Bool} (h : k < s.size) (hb : s[k] = 32 ∧ q = false) (ht : cutTo s.data.toList k q) : cutV false s.data.toList = (s.data.toList.take k, s.data.toList.drop (k + 1), true) := by
  unfold cutTo at ht
  rw [ht, drop_at s k h]; simp [cutV, hb]
theorem cutTo_end {s : ByteArray} {q : Bool} (ht : cutTo s.data.toList s.size q) : cutV false s.data.toList = (s.data.toList, [], false) := by
  unfold cutTo at ht
  rw [ht, List.drop_eq_nil_of_le (by simp), List.take_of_length_le (by simp)]; simp [cutV]

theorem byte_eq {c : UInt8} {n : Nat} (hn : n < 256) (h : ((c.toNat : Int) == (n : Int)) = true) : c = UInt8.ofNat n := by
  have h' : (c.toNat : Int) = (n : Int) := by simpa using h
  have : c.toNat = n := by omega
  apply UInt8.toNat_inj.1
  rw [this]; simp; omega
theorem byte_ne {c : UInt8} {n : Nat} (h : ((c.toNat : Int) == (n : Int)) = false) : c ≠ UInt8.ofNat n ∨ 256 ≤ n := by
  by_cases hn : n < 256
  · left
    intro e
    subst e
    have : (UInt8.ofNat n).toNat = n := by simp; omega
    rw [this] at h; simp at h
  · right; omega

set_option maxHeartbeats 800000 in
theorem cutValue_any (s : ByteArray) (w : World) (hs : s.size ≤ maxLen) :
    Calls Tryz.prog 129 #[.string s] w fun e w' => e = .returned (.tuple #[.string ⟨(cutV false s.data.toList).1.toArray⟩, .string ⟨(cutV false s.data.toList).2.1.toArray⟩, .bool (cutV false s.data.toList).2.2]) ∧ Below w.heap.size w w' := by
  unfold maxLen at hs
  go_enter Tryz.func129, Tryz.ntmps129
  go_wp2
  go_loop [5, 9] (fun x i => ∃ (k : Nat) (q : Bool), k ≤ s.size ∧ x = .bool q ∧ i = .int .i64 k ∧ cutTo s.data.toList k q) (fun _ i => s.size - (intOf i).toNat)
  case atStart => exact ⟨0, false, Nat.zero_le _, rfl, rfl, cutTo_zero _⟩
  case round =>
    obtain ⟨k, q, hk, rfl, rfl, ht⟩ := hrel
    have HT := Hid.mk ht
    clear ht
    by_cases hlt : k < s.size
    · cases h1 : ((s[k].toNat : Int) == 39)
      · cases h2 : ((s[k].toNat : Int) == 32)
        · go_wp2
          go_round
          case rel => exact ⟨k + 1, q, by omega, rfl, by go_num, cutTo_other hlt ((byte_ne h1).resolve_right (by decide)) (fun e => ((byte_ne h2).resolve_right (by decide)) e.1) HT.out⟩
          case measure => simp [intOf]; omega
        · cases q
          · go_wp2
            go_quiet (fail)
            go_wp2
            go_ret3
            have hc := cutTo_blank hlt ⟨byte_eq (by decide) h2, rfl⟩ HT.out
            exact ⟨ret3s (by rw [hc]; exact extract_take s k) (by rw [hc]; exact extract_drop s (k + 1)) (by rw [hc]), below_drewN (Below.refl _ _) _⟩
          · go_wp2
            go_round
            case rel => exact ⟨k + 1, true, by omega, rfl, by go_num, cutTo_other hlt ((byte_ne h1).resolve_right (by decide)) (fun e => by simp at e) HT.out⟩
            case measure => simp [intOf]; omega
      · have h2 : ((s[k].toNat : Int) == 32) = false := by
          have : (s[k].toNat : Int) = 39 := by simpa using h1
          rw [this]; rfl
        go_wp2
        go_round
        case rel => exact ⟨k + 1, !q, by omega, rfl, by go_num, cutTo_quote hlt (byte_eq (by decide) h1) HT.out⟩
        case measure => simp [intOf]; omega
    · go_wp2
      go_ret3
      have hke : k = s.size := by omega
      have ht := HT.out
      rw [hke] at ht
      have hc := cutTo_end ht
      exact ⟨ret3s (by rw [hc]) (by rw [hc]) (by rw [hc]), Below.refl _ _⟩
end Go.Proofs.YtjceppinfjbegaaGreatDoor

namespace Go.Proofs.YtjceppinfjbegaaGreatDoor
open Go.RowKit

theorem bcell {W w1 : World} (hb : Below W.heap.size W w1) : (∀ b o, b < W.heap.size → w1.cell? ⟨b, o, none⟩ = W.cell? ⟨b, o, none⟩) ∧ (∀ b o, b < W.heap.size → w1.frozen? ⟨b, o, none⟩ = W.frozen? ⟨b, o, none⟩) :=
  ⟨fun b o h => hb.cell (p := ⟨b, o, none⟩) h, fun b o h => hb.frozen (p := ⟨b, o, none⟩) h⟩

theorem toBelow {P : Program} {f : FuncId} {args : Array Value} {w : World} {v : Value} (h : Calls P f args w fun e w' => e = .returned v ∧ w' = w) : Calls P f args w fun e w' => e = .returned v ∧ Below w.heap.size w w' :=
  h.mono fun _ _ x => ⟨x.1, by rw [x.2]; exact Below.refl _ _⟩

def kindB (n : Int) : Bool := n == 1 || n == 2
def colsOK (seen : List (ByteArray × Int)) : List (ByteArray × Int) → Bool
  | [] => true
  | c :: r => nameB c.1.data.toList && (kindB c.2 && (!calledB seen c.1.data.toList && colsOK (seen ++ [c]) r))
def rightColsB (cs : List (ByteArray × Int)) : Bool := decide (1 ≤ cs.length) && (decide (cs.length ≤ 6) && colsOK [] cs)

theorem colsOK_step (cs : List (ByteArray × Int)) (k : Nat) (h : k < cs.length) : colsOK (cs.take k) (cs.drop k) = (nameB cs[k].1.data.toList && (kindB cs[k].2 && (!calledB (cs.take k) cs[k].1.data.toList && colsOK (cs.take (k + 1)) (cs.drop (k + 1))))) := by
  rw [List.drop_eq_getElem_cons h, List.take_succ_eq_append_getElem h]; rfl

theorem ColsAt.take {w : World} {b o : Nat} {cs : List (ByteArray × Int)} (h : ColsAt w b o cs) (k : Nat) : ColsAt w b o (cs.take k) := fun j hj => by
  have hj' : j < cs.length := by rw [List.length_take] at hj; omega
  have := h j hj'
  rw [List.getElem_take]; exact this

theorem rkindB_any (n : Int) (w : World) : Calls Tryz.prog 114 #[.int .i64 n] w fun e w' => e = .returned (.bool (kindB n)) ∧ w' = w := rkind_any n w

set_option maxHeartbeats 1600000 in
theorem rightCols_in (b o n c : Nat) (cs : List (ByteArray × Int)) (w : World) (hn : cs.length = n) (h1 : 1 ≤ n) (h6 : n ≤ 6) (hcap : n ≤ c) (hb : b < w.heap.size) (hc : ColsAt w b o cs) (hs : ∀ x ∈ cs, x.1.size ≤ maxLen) :
    Calls Tryz.prog 78 #[.slice (some ⟨b, o, none⟩) n c] w fun e w' => e = .returned (.bool (rightColsB cs)) ∧ Below w.heap.size w w' := by
  have hr : rightColsB cs = colsOK [] cs := by simp [rightColsB, hn, h1, h6]
  have HR := Hid.mk hr
  have HN := Hid.mk hn
  clear hr hn
  have e0 : ((n : Int) == 0) = false := by simp; omega
  go_enter Tryz.func78, Tryz.ntmps78
  go_wp2
  go_loopw [15] (fun i wr => ∃ k : Nat, k ≤ n ∧ i = .int .i64 k ∧ colsOK [] cs = colsOK (cs.take k) (cs.drop k) ∧ Below w.heap.size w wr) (fun i _ => n - (intOf i).toNat)
  case atStart => exact ⟨0, Nat.zero_le _, rfl, rfl, Below.refl _ _⟩
  case round =>
    obtain ⟨k, hk, rfl, hal, hnx⟩ := hrel
    have HA := Hid.mk hal
    clear hal
    by_cases hlt : k < n
    · have hk2 : k < cs.length := by have := HN.out; omega
      obtain ⟨c1, c2⟩ := hc k hk2
      have d1 := (hnx.cell (p := ⟨b, o + k * 2, none⟩) hb).trans c1
      have d2 := (hnx.cell (p := ⟨b, o + k * 2 + 1, none⟩) hb).trans c2
      clear c1 c2
      have hbr : b < wr.heap.size := by have := hnx.size; omega
      have hsk : cs[k].1.size ≤ maxLen := hs _ (List.getElem_mem hk2)
      have hct : ColsAt wr b o (cs.take k) := (hc.below hnx hb).take k
      have hlk : (cs.take k).length = k := by rw [List.length_take]; omega
      have HLK := Hid.mk hlk
      clear hlk
      have HS := Hid.mk (colsOK_step cs k hk2)
      have k1 := cell_regrown (w := wr.alloc (.cells #[.string cs[k].1, .int .i64 cs[k].2] 60)) (a := ⟨wr.heap.size, 0, none⟩) (v := .string cs[k].1) (by simp)
      have k2 := cell_regrown (w := wr.alloc (.cells #[.string cs[k].1, .int .i64 cs[k].2] 60)) (a := ⟨wr.heap.size, 1, none⟩) (v := .int .i64 cs[k].2) (by simp)
      have cN : ∀ d os, _ := fun d os => Calls.regrown_of (name_any cs[k].1 (Sort.grow (redrawn (wr.alloc (.cells #[.string cs[k].1, .int .i64 cs[k].2] 60)) d) os) hsk)
      have cK : ∀ d os, _ := fun d os => Calls.regrown_of (toBelow (rkindB_any cs[k].2 (Sort.grow (redrawn (wr.alloc (.cells #[.string cs[k].1, .int .i64 cs[k].2] 60)) d) os)))
      have cC : ∀ d os, _ := fun d os => Calls.regrown_of (called_any b o k c (cs.take k) cs[k].1 (Sort.grow (redrawn (wr.alloc (.cells #[.string cs[k].1, .int .i64 cs[k].2] 60)) d) os) HLK.out (by omega) (by simp [Sort.grow, redrawn]; omega) ((hct.below (below_box _ _) hbr).below (below_regrown _ _ _) (by simp; omega)))
      cases g1 : nameB cs[k].1.data.toList
      · simp only [g1] at cN
        go_wp2
        refine wp_region_quiet_below (by kernel_rfl) (by kernel_rfl) ?_
        repeat (any_goals (first | go_big_quiet_step (first | exact cN _ _ | exact cK _ _ | exact cC _ _) | quiet_step (first | exact cN _ _ | exact cK _ _ | exact cC _ _)))
        refine wpQuiet_nil ?_
        intro _ hw'
        obtain ⟨⟨dq, osq⟩, hw''⟩ := hw'
        subst hw''
        go_wp2
        go_ret
        exact ⟨ret_bool (by rw [HR.out, HA.out, HS.out, g1]; rfl), hnx.trans ((below_box _ _).mono hnx.size |>.trans ((below_regrown _ dq osq).mono (by simp; have := hnx.size; omega)))⟩
      · simp only [g1] at cN
        cases g2 : kindB cs[k].2
        · simp only [g2] at cK
          go_wp2
          refine wp_region_quiet_below (by kernel_rfl) (by kernel_rfl) ?_
          repeat (any_goals (first | go_big_quiet_step (first | exact cN _ _ | exact cK _ _ | exact cC _ _) | quiet_step (first | exact cN _ _ | exact cK _ _ | exact cC _ _)))
          refine wpQuiet_nil ?_
          intro _ hw'
          obtain ⟨⟨dq, osq⟩, hw''⟩ := hw'
          subst hw''
          go_wp2
          go_ret
          exact ⟨ret_bool (by rw [HR.out, HA.out, HS.out, g1, g2]; rfl), hnx.trans ((below_box _ _).mono hnx.size |>.trans ((below_regrown _ dq osq).mono (by simp; have := hnx.size; omega)))⟩
        · simp only [g2] at cK
          have hsl : (k : Int) ≤ (c : Int) := by omega
          cases g3 : calledB (cs.take k) cs[k].1.data.toList
          all_goals simp only [g3] at cC
          all_goals
            go_wp2
            refine wp_region_quiet_below (by kernel_rfl) (by kernel_rfl) ?_
            repeat (any_goals (first | go_big_quiet_step (first | exact cN _ _ | exact cK _ _ | exact cC _ _) | quiet_step (first | exact cN _ _ | exact cK _ _ | exact cC _ _)))
            refine wpQuiet_nil ?_
            intro _ hw'
            obtain ⟨⟨dq, osq⟩, hw''⟩ := hw'
            subst hw''
          · go_wp2
            go_roundw
            case rel => exact ⟨k + 1, by omega, by go_num, by rw [HA.out, HS.out, g1, g2, g3]; rfl, hnx.trans ((below_box _ _).mono hnx.size |>.trans ((below_regrown _ dq osq).mono (by simp; have := hnx.size; omega)))⟩
            case measure => simp [intOf]; omega
          · go_wp2
            go_ret
            exact ⟨ret_bool (by rw [HR.out, HA.out, HS.out, g1, g2, g3]; rfl), hnx.trans ((below_box _ _).mono hnx.size |>.trans ((below_regrown _ dq osq).mono (by simp; have := hnx.size; omega)))⟩
    · go_wp2
      go_ret
      exact ⟨ret_bool (by rw [HR.out, HA.out, List.drop_eq_nil_of_le (by have := HN.out; omega)]; rfl), hnx⟩
end Go.Proofs.YtjceppinfjbegaaGreatDoor

namespace Go.Proofs.YtjceppinfjbegaaGreatDoor
open Go.RowKit

abbrev Vl := Int × Int × ByteArray
abbrev Cl := ByteArray × Int

/-- Where a row of values lies. -/
def ValsAt (w : World) (b o : Nat) (vs : List Vl) : Prop :=
  ∀ (j : Nat) (h : j < vs.length), w.cell? ⟨b, o + j * 3, none⟩ = some (.int .i64 vs[j].1) ∧ w.cell? ⟨b, o + j * 3 + 1, none⟩ = some (.int .i64 vs[j].2.1) ∧ w.cell? ⟨b, o + j * 3 + 2, none⟩ = some (.string vs[j].2.2)

theorem ValsAt.below {w w' : World} {B b o : Nat} {vs : List Vl} (h : ValsAt w b o vs) (hb : Below B w w') (hB : b < B) : ValsAt w' b o vs :=
  fun j hj => ⟨(hb.cell (p := ⟨b, o + j * 3, none⟩) hB).trans (h j hj).1, (hb.cell (p := ⟨b, o + j * 3 + 1, none⟩) hB).trans (h j hj).2.1, (hb.cell (p := ⟨b, o + j * 3 + 2, none⟩) hB).trans (h j hj).2.2⟩

def ColsIs (w : World) (v : Value) (cs : List Cl) : Prop :=
  ∃ a c, v = .slice a cs.length c ∧ cs.length ≤ c ∧ (∀ x ∈ cs, x.1.size ≤ maxLen) ∧ (cs = [] ∨ ∃ b o, a = some ⟨b, o, none⟩ ∧ b < w.heap.size ∧ ColsAt w b o cs)
def RowIs (w : World) (v : Value) (vs : List Vl) : Prop :=
  ∃ a c, v = .slice a vs.length c ∧ (∀ x ∈ vs, x.2.2.size ≤ maxLen) ∧ (vs = [] ∨ ∃ b o, a = some ⟨b, o, none⟩ ∧ b < w.heap.size ∧ ValsAt w b o vs)
def RowsAt (w : World) (b o : Nat) (rs : List (List Vl)) : Prop := ∀ (j : Nat) (h : j < rs.length), ∃ u, w.cell? ⟨b, o + j, none⟩ = some u ∧ RowIs w u rs[j]
def RowsIs (w : World) (v : Value) (rs : List (List Vl)) : Prop :=
  ∃ a c, v = .slice a rs.length c ∧ (rs = [] ∨ ∃ b o, a = some ⟨b, o, none⟩ ∧ b < w.heap.size ∧ RowsAt w b o rs)

theorem ColsIs.below {w w' : World} {v : Value} {cs : List Cl} (h : ColsIs w v cs) (hb : Below w.heap.size w w') : ColsIs w' v cs := by
  obtain ⟨a, c, e, hc, hs, h⟩ := h
  refine ⟨a, c, e, hc, hs, ?_⟩
  rcases h with h | ⟨b, o, e2, hl, hat⟩
  · exact Or.inl h
  · exact Or.inr ⟨b, o, e2, Nat.lt_of_lt_of_le hl hb.size, hat.below hb hl⟩
theorem RowIs.below {w w' : World} {v : Value} {vs : List Vl} (h : RowIs w v vs) (hb : Below w.heap.size w w') : RowIs w' v vs := by
  obtain ⟨a, c, e, hs, h⟩ := h
  refine ⟨a, c, e, hs, ?_⟩
  rcases h with h | ⟨b, o, e2, hl, hat⟩
  · exact Or.inl h
  · exact Or.inr ⟨b, o, e2, Nat.lt_of_lt_of_le hl hb.size, hat.below hb hl⟩
theorem RowsAt.below {w w' : World} {b o : Nat} {rs : List (List Vl)} (h : RowsAt w b o rs) (hb : Below w.heap.size w w') (hl : b < w.heap.size) : RowsAt w' b o rs := fun j hj => by
  obtain ⟨u, h1, h2⟩ := h j hj
  exact ⟨u, (hb.cell (p := ⟨b, o + j, none⟩) hl).trans h1, h2.below hb⟩
theorem RowsIs.below {w w' : World} {v : Value} {rs : List (List Vl)} (h : RowsIs w v rs) (hb : Below w.heap.size w w') : RowsIs w' v rs := by
  obtain ⟨a, c, e, h⟩ := h
  refine ⟨a, c, e, ?_⟩
  rcases h with h | ⟨b, o, e2, hl, hat⟩
  · exact Or.inl h
  · exact Or.inr ⟨b, o, e2, Nat.lt_of_lt_of_le hl hb.size, hat.below hb hl⟩

set_option maxHeartbeats 400000 in
theorem rightCols_any (v : Value) (cs : List Cl) (w : World) (h : ColsIs w v cs) :
    Calls Tryz.prog 78 #[v] w fun e w' => e = .returned (.bool (rightColsB cs)) ∧ Below w.heap.size w w' := by
  obtain ⟨a, c, rfl, hc, hs, h⟩ := h
  by_cases h1 : 1 ≤ cs.length
  · by_cases h6 : cs.length ≤ 6
    · rcases h with h | ⟨b, o, rfl, hl, hat⟩
      · rw [h] at h1; simp at h1
      · exact rightCols_in b o cs.length c cs w rfl h1 h6 hc hl hat hs
    · have hr : rightColsB cs = false := by simp [rightColsB, h6]
      rw [hr]
      clear hr h hs
      generalize cs.length = n at *
      have e0 : ((n : Int) == 0) = false := by simp; omega
      go_enter Tryz.func78, Tryz.ntmps78
      go_wp2
      go_ret
      exact ⟨rfl, Below.refl _ _⟩
  · have hr : rightColsB cs = false := by simp [rightColsB, h1]
    have h0 : cs.length = 0 := by omega
    rw [hr, h0]
    clear hr h hs h0
    go_enter Tryz.func78, Tryz.ntmps78
    go_wp2
    go_ret
    exact ⟨rfl, Below.refl _ _⟩

def rvB (x : Vl) : Bool := rightValueB x.1 x.2.1 x.2.2.data.toList
def rowOK : List Vl → List Cl → Bool
  | [], [] => true
  | v :: r, c :: q => v.1 == c.2 && (rvB v && rowOK r q)
  | _, _ => false

theorem rowOK_lens : ∀ (vs : List Vl) (cs : List Cl), vs.length ≠ cs.length → rowOK vs cs = false
  | [], [], h => absurd rfl h
  | [], _ :: _, _ => rfl
  | _ :: _, [], _ => rfl
  | v :: r, c :: q, h => by
    rw [rowOK, rowOK_lens r q (by simpa using h)]; simp
theorem rowOK_step (vs : List Vl) (cs : List Cl) (k : Nat) (h : k < vs.length) (h' : k < cs.length) : rowOK (vs.drop k) (cs.drop k) = (vs[k].1 == cs[k].2 && (rvB vs[k] && rowOK (vs.drop (k + 1)) (cs.drop (k + 1)))) := by
  rw [List.drop_eq_getElem_cons h, List.drop_eq_getElem_cons h']; rfl

theorem rightValue_vl (x : Vl) (w : World) (hs : x.2.2.size ≤ maxLen) :
    Calls Tryz.prog 116 #[.agg #[.int .i64 x.1, .int .i64 x.2.1, .string x.2.2]] w fun e w' => e = .returned (.bool (rvB x)) ∧ Below w.heap.size w w' := rightValue_any _ _ _ _ hs

set_option maxHeartbeats 400000 in
theorem rightRow_lens (a a' : Option Addr) (n c n' c' : Nat) (w : World) (h : n ≠ n') :
    Calls Tryz.prog 79 #[.slice a n c, .slice a' n' c'] w fun e w' => e = .returned (.bool false) ∧ Below w.heap.size w w' := by
  have e0 : ((n : Int) != (n' : Int)) = true := by simp; omega
  go_enter Tryz.func79, Tryz.ntmps79
  go_wp2
  go_ret
  exact ⟨rfl, Below.refl _ _⟩

set_option maxHeartbeats 1600000 in
theorem rightRow_in (b o c b' o' c' n : Nat) (vs : List Vl) (cs : List Cl) (w : World) (hn : vs.length = n) (hn' : cs.length = n) (h6 : n ≤ 100) (hb : b < w.heap.size) (hb' : b' < w.heap.size) (hv : ValsAt w b o vs) (hc : ColsAt w b' o' cs) (hs : ∀ x ∈ vs, x.2.2.size ≤ maxLen) :
    Calls Tryz.prog 79 #[.slice (some ⟨b, o, none⟩) n c, .slice (some ⟨b', o', none⟩) n c'] w fun e w' => e = .returned (.bool (rowOK vs cs)) ∧ Below w.heap.size w w' := by
  have HN := Hid.mk hn
  have HN' := Hid.mk hn'
  clear hn hn'
  go_enter Tryz.func79, Tryz.ntmps79
  go_wp2
  go_loopw [14] (fun i wr => ∃ k : Nat, k ≤ n ∧ i = .int .i64 k ∧ rowOK vs cs = rowOK (vs.drop k) (cs.drop k) ∧ Below w.heap.size w wr) (fun i _ => n - (intOf i).toNat)
  case atStart => exact ⟨0, Nat.zero_le _, rfl, rfl, Below.refl _ _⟩
  case round =>
    obtain ⟨k, hk, rfl, hal, hnx⟩ := hrel
    have HA := Hid.mk hal
    clear hal
    by_cases hlt : k < n
    · have hk2 : k < vs.length := by have := HN.out; omega
      have hk3 : k < cs.length := by have := HN'.out; omega
      obtain ⟨c1, c2, c3⟩ := hv k hk2
      have d1 := (hnx.cell (p := ⟨b, o + k * 3, none⟩) hb).trans c1
      have d2 := (hnx.cell (p := ⟨b, o + k * 3 + 1, none⟩) hb).trans c2
      have d3 := (hnx.cell (p := ⟨b, o + k * 3 + 2, none⟩) hb).trans c3
      obtain ⟨_, c5⟩ := hc k hk3
      have d5 := (hnx.cell (p := ⟨b', o' + k * 2 + 1, none⟩) hb').trans c5
      clear c1 c2 c3 c5
      have hbr' : b' < wr.heap.size := by have := hnx.size; omega
      have hsk : vs[k].2.2.size ≤ maxLen := hs _ (List.getElem_mem hk2)
      have HS := Hid.mk (rowOK_step vs cs k hk2 hk3)
      have k1 := cell_regrown (w := wr.alloc (.cells #[.int .i64 vs[k].1, .int .i64 vs[k].2.1, .string vs[k].2.2] 24)) (a := ⟨wr.heap.size, 0, none⟩) (v := .int .i64 vs[k].1) (by simp)
      have k2 := cell_regrown (w := wr.alloc (.cells #[.int .i64 vs[k].1, .int .i64 vs[k].2.1, .string vs[k].2.2] 24)) (a := ⟨wr.heap.size, 1, none⟩) (v := .int .i64 vs[k].2.1) (by simp)
      have k3 := cell_regrown (w := wr.alloc (.cells #[.int .i64 vs[k].1, .int .i64 vs[k].2.1, .string vs[k].2.2] 24)) (a := ⟨wr.heap.size, 2, none⟩) (v := .string vs[k].2.2) (by simp)
      have k5 := cell_regrown (w := wr.alloc (.cells #[.int .i64 vs[k].1, .int .i64 vs[k].2.1, .string vs[k].2.2] 24)) (a := ⟨b', o' + k * 2 + 1, none⟩) (v := .int .i64 cs[k].2) (by rw [World.cell?_alloc_past _ _ _ hbr']; exact d5)
      have cV : ∀ d os, _ := fun d os => Calls.regrown_of (rightValue_vl vs[k] (Sort.grow (redrawn (wr.alloc (.cells #[.int .i64 vs[k].1, .int .i64 vs[k].2.1, .string vs[k].2.2] 24)) d) os) hsk)
      cases g1 : (vs[k].1 != cs[k].2)
      · cases g2 : rvB vs[k]
        all_goals simp only [g2] at cV
        all_goals
          go_wp2
          refine wp_region_quiet_below (by kernel_rfl) (by kernel_rfl) ?_
          repeat (any_goals (first | go_big_quiet_step (exact cV _ _) | quiet_step (exact cV _ _)))
          refine wpQuiet_nil ?_
          intro _ hw'
          obtain ⟨⟨dq, osq⟩, hw''⟩ := hw'
          subst hw''
        · go_wp2
          go_ret
          exact ⟨ret_bool (by rw [HA.out, HS.out, g2]; simp), hnx.trans ((below_box _ _).mono hnx.size |>.trans ((below_regrown _ dq osq).mono (by simp; have := hnx.size; omega)))⟩
        · go_wp2
          go_roundw
          case rel => exact ⟨k + 1, by omega, by go_num, by rw [HA.out, HS.out, g2]; simp only [bne_eq_false_iff_eq] at g1; rw [g1]; simp, hnx.trans ((below_box _ _).mono hnx.size |>.trans ((below_regrown _ dq osq).mono (by simp; have := hnx.size; omega)))⟩
          case measure => simp [intOf]; omega
      · go_wp2
        refine wp_region_quiet_below (by kernel_rfl) (by kernel_rfl) ?_
        repeat (any_goals (first | go_big_quiet_step (exact cV _ _) | quiet_step (exact cV _ _)))
        refine wpQuiet_nil ?_
        intro _ hw'
        obtain ⟨⟨dq, osq⟩, hw''⟩ := hw'
        subst hw''
        go_wp2
        go_ret
        exact ⟨ret_bool (by rw [HA.out, HS.out]; simp only [bne_iff_ne] at g1; simp [g1]), hnx.trans ((below_box _ _).mono hnx.size |>.trans ((below_regrown _ dq osq).mono (by simp; have := hnx.size; omega)))⟩
    · go_wp2
      go_ret
      exact ⟨ret_bool (by rw [HA.out, List.drop_eq_nil_of_le (by have := HN.out; omega), List.drop_eq_nil_of_le (by have := HN'.out; omega)]; rfl), hnx⟩
end Go.Proofs.YtjceppinfjbegaaGreatDoor

namespace Go.Proofs.YtjceppinfjbegaaGreatDoor
open Go.RowKit

set_option maxHeartbeats 400000 in
theorem rightRow_any (u vc : Value) (vs : List Vl) (cs : List Cl) (w : World) (hu : RowIs w u vs) (hc : ColsIs w vc cs) (h1 : 1 ≤ cs.length) (h6 : cs.length ≤ 6) :
    Calls Tryz.prog 79 #[u, vc] w fun e w' => e = .returned (.bool (rowOK vs cs)) ∧ Below w.heap.size w w' := by
  obtain ⟨a, c, rfl, hs, hu⟩ := hu
  obtain ⟨a', c', rfl, _, _, hc⟩ := hc
  by_cases hl : vs.length = cs.length
  · rcases hc with hc | ⟨b', o', rfl, hl', hat'⟩
    · rw [hc] at h1; simp at h1
    · rcases hu with hu | ⟨b, o, rfl, hlt, hat⟩
      · rw [hu] at hl; simp at hl; omega
      · rw [← hl]
        exact rightRow_in b o c b' o' c' vs.length vs cs w rfl hl.symm (by omega) hlt hl' hat hat' hs
  · rw [rowOK_lens vs cs hl]
    exact rightRow_lens _ _ _ _ _ _ _ hl

def rightB (cs : List Cl) (rs : List (List Vl)) : Bool := rightColsB cs && (decide (rs.length ≤ 60) && rs.all fun r => rowOK r cs)

theorem rightCols_len {cs : List Cl} (h : rightColsB cs = true) : 1 ≤ cs.length ∧ cs.length ≤ 6 := by
  simp [rightColsB] at h; exact ⟨by omega, h.2.1⟩
theorem all_step {p : List Vl → Bool} {rs : List (List Vl)} {k : Nat} (h : k < rs.length) (ht : (rs.take k).all p = true) (hp : p rs[k] = true) : (rs.take (k + 1)).all p = true := by
  rw [List.take_succ_eq_append_getElem h, List.all_append, ht]; simp [hp]
theorem all_false {p : List Vl → Bool} {rs : List (List Vl)} {k : Nat} (h : k < rs.length) (hp : p rs[k] = false) : rs.all p = false := by
  rw [List.all_eq_false]; exact ⟨_, List.getElem_mem h, by simp [hp]⟩

set_option maxHeartbeats 1600000 in
theorem right_any (vc vr : Value) (cs : List Cl) (rs : List (List Vl)) (w : World) (hc : ColsIs w vc cs) (hr : RowsIs w vr rs) :
    Calls Tryz.prog 48 #[.agg #[vc, vr]] w fun e w' => e = .returned (.bool (rightB cs rs)) ∧ Below w.heap.size w w' := by
  have hc0 := hc.below (below_box w (.cells #[vc, vr] 36))
  have hr0 := hr.below (below_box w (.cells #[vc, vr] 36))
  obtain ⟨a, c, rfl, -, -, -⟩ := hc
  obtain ⟨a', c', rfl, -⟩ := hr
  cases g1 : rightColsB cs
  · have HB : Hid (rightB cs rs = false) := by show rightB cs rs = false; simp [rightB, g1]
    have hR := rightCols_any _ cs _ hc0
    simp only [g1] at hR
    have HR := Hid.mk hR
    clear hR hc0 hr0
    go_enter Tryz.func48, Tryz.ntmps48
    go_wp2_with (go_at_call 78; refine HR.out.mono ?_; rintro e w' ⟨rfl, hb⟩)
    go_ret
    exact ⟨ret_bool HB.out.symm, (below_box _ _).trans (hb.mono (by simp))⟩
  · obtain ⟨h1, h6⟩ := rightCols_len g1
    have hR := rightCols_any _ cs _ hc0
    simp only [g1] at hR
    have HR := Hid.mk hR
    clear hR
    by_cases h60 : rs.length ≤ 60
    · have HB : Hid (rightB cs rs = rs.all fun r => rowOK r cs) := by show _ = _; simp [rightB, g1, h60]
      have n60 : ¬ ((60 : Int) < (rs.length : Int)) := by omega
      go_enter Tryz.func48, Tryz.ntmps48
      go_wp2_with (go_at_call 78; refine HR.out.mono ?_; rintro e w1 ⟨rfl, hb⟩; obtain ⟨hcb, hfb⟩ := bcell hb)
      have hc1 := hc0.below hb
      have hr1 := hr0.below hb
      have hz : w.heap.size + 1 ≤ w1.heap.size := by have := hb.size; simpa using this
      go_loopw [18] (fun i wr => ∃ k : Nat, k ≤ rs.length ∧ i = .int .i64 k ∧ (rs.take k).all (fun r => rowOK r cs) = true ∧ Below w1.heap.size w1 wr) (fun i _ => rs.length - (intOf i).toNat)
      case atStart => exact ⟨0, Nat.zero_le _, rfl, rfl, Below.refl _ _⟩
      case round =>
        obtain ⟨k, hk, rfl, hal, hnx⟩ := hrel
        have HA := Hid.mk hal
        clear hal
        have t1 : wr.cell? ⟨w.heap.size, 0, none⟩ = some (.slice a cs.length c) := (hnx.cell (p := ⟨w.heap.size, 0, none⟩) (by exact hz)).trans ((hcb _ _ (by simp)).trans (by simp))
        by_cases hlt : k < rs.length
        · obtain ⟨a2, c2, e2, hat⟩ := hr1
          rcases hat with hat | ⟨rb, ro, rfl, hrl, hat⟩
          · rw [hat] at hlt; simp at hlt
          · simp only [Value.slice.injEq] at e2
            obtain ⟨rfl, -, rfl⟩ := e2
            obtain ⟨u, hu, hrow⟩ := hat k hlt
            have hu' := (hnx.cell (p := ⟨rb, ro + k, none⟩) hrl).trans hu
            have hq := rightRow_any u (.slice a cs.length c) rs[k] cs wr (hrow.below hnx) (hc1.below hnx) h1 h6
            obtain ⟨a3, c3, rfl, -, -⟩ := hrow
            have HQ := Hid.mk hq
            clear hq hu
            cases g2 : rowOK rs[k] cs
            · go_wp2_with (go_at_call 79; refine HQ.out.mono ?_; rintro e w2 ⟨rfl, hb2⟩)
              go_ret
              exact ⟨ret_bool (by rw [HB.out]; exact (all_false (p := fun r => rowOK r cs) hlt g2).symm), (below_box _ _).trans ((hb.mono (by simp)).trans ((hnx.mono (by omega)).trans (hb2.mono (by have := hnx.size; omega))))⟩
            · go_wp2_with (go_at_call 79; refine HQ.out.mono ?_; rintro e w2 ⟨rfl, hb2⟩)
              go_roundw
              case rel => exact ⟨k + 1, by omega, by go_num, all_step (p := fun r => rowOK r cs) hlt HA.out g2, hnx.trans (hb2.mono hnx.size)⟩
              case measure => simp [intOf]; omega
        · go_wp2
          go_ret
          exact ⟨ret_bool (by have := HA.out; rw [List.take_of_length_le (by omega)] at this; rw [HB.out]; exact this.symm), (below_box _ _).trans ((hb.mono (by simp)).trans (hnx.mono (by omega)))⟩
    · have HB : Hid (rightB cs rs = false) := by show _ = _; simp [rightB, h60]
      have n60 : (60 : Int) < (rs.length : Int) := by omega
      go_enter Tryz.func48, Tryz.ntmps48
      go_wp2_with (go_at_call 78; refine HR.out.mono ?_; rintro e w1 ⟨rfl, hb⟩; obtain ⟨hcb, hfb⟩ := bcell hb)
      go_ret
      exact ⟨ret_bool HB.out.symm, (below_box _ _).trans (hb.mono (by simp))⟩
end Go.Proofs.YtjceppinfjbegaaGreatDoor

