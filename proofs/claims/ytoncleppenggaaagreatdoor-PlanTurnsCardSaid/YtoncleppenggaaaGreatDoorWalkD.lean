import Derived.Test.YtoncleppenggaaaGreatDoorProg
import Derived.WalkKit
import Derived.WalkSpells
import Derived.WalkLawsBesides
import Derived.Deep.QuietTactic
import Derived.BigQuiet
import Derived.Deep.RegionWith
import Derived.Deep.DeepFit
import Derived.Laws.EntriesVeiled
set_option linter.unusedSimpArgs false
set_option linter.unusedVariables false
namespace Go.Proofs.YtoncleppenggaaaGreatDoor
open Go.RowKit

theorem ret_bool {a b : Bool} (h : a = b) : Ending.returned (.bool a) = .returned (.bool b) := by rw [h]
theorem ret_int {k : IntKind} {a b : Int} (h : a = b) : Ending.returned (.int k a) = .returned (.int k b) := by rw [h]

def pwI (n : Int) : Bool := decide (32 ≤ n) && (decide (n ≤ 126) && n != 39)
def lowI (n : Int) : Bool := decide (97 ≤ n) && decide (n ≤ 122)
def lowdigI (n : Int) : Bool := lowI n || (decide (48 ≤ n) && decide (n ≤ 57))
def allI (p : Int → Bool) (l : List UInt8) : Bool := l.all fun c => p (c.toNat : Int)

theorem take_snoc (s : ByteArray) (k : Nat) (h : k < s.size) : s.data.toList.take (k + 1) = s.data.toList.take k ++ [s[k]] := by
  rw [List.take_succ_eq_append_getElem (by simpa using h)]; rfl
theorem allI_snoc (p : Int → Bool) (l : List UInt8) (c : UInt8) : allI p (l ++ [c]) = (allI p l && p (c.toNat : Int)) := by
  simp [allI]
theorem allI_false (p : Int → Bool) (s : ByteArray) (k : Nat) (h : k < s.size) (hp : p (s[k].toNat : Int) = false) : allI p s.data.toList = false := by
  have : s[k] ∈ s.data.toList := by
    have := List.getElem_mem (l := s.data.toList) (n := k) (by simpa using h)
    exact this
  unfold allI
  rw [List.all_eq_false]
  exact ⟨_, this, by simp [hp]⟩

set_option maxHeartbeats 400000 in
theorem rw1_any (n : Int) (w : World) : Calls Tryz.prog 127 #[.int .u8 n] w fun e w' => e = .returned (.bool (pwI n)) ∧ w' = w := by
  go_enter Tryz.func127, Tryz.ntmps127
  go_wp2
  all_goals go_ret
  all_goals refine ⟨ret_bool ?_, rfl⟩
  all_goals first | (simp [pwI, *]; done) | (simp [pwI]; omega)

set_option maxHeartbeats 400000 in
theorem name1_any (n : Int) (w : World) : Calls Tryz.prog 48 #[.int .u8 n] w fun e w' => e = .returned (.bool (lowI n)) ∧ w' = w := by
  go_enter Tryz.func48, Tryz.ntmps48
  go_wp2
  all_goals go_ret
  all_goals refine ⟨ret_bool ?_, rfl⟩
  all_goals first | (simp [lowI, *]; done) | (simp [lowI]; omega)

set_option maxHeartbeats 400000 in
theorem rkind_any (n : Int) (w : World) : Calls Tryz.prog 66 #[.int .i64 n] w fun e w' => e = .returned (.bool (n == 1 || n == 2)) ∧ w' = w := by
  go_enter Tryz.func66, Tryz.ntmps66
  go_wp2
  all_goals go_ret
  all_goals refine ⟨ret_bool ?_, rfl⟩
  all_goals simp_all

set_option maxHeartbeats 400000 in
theorem every_rw (s : ByteArray) (w : World) (hs : s.size ≤ maxLen) :
    Calls Tryz.prog 49 #[.string s, .func (.func 127) #[] #[]] w fun e w' => e = .returned (.bool (allI pwI s.data.toList)) ∧ w' = w := by
  unfold maxLen at hs
  go_enter Tryz.func49, Tryz.ntmps49
  go_wp2
  go_loop [8] (fun i => ∃ k : Nat, k ≤ s.size ∧ i = .int .i64 k ∧ allI pwI (s.data.toList.take k) = true) (fun i => s.size - (intOf i).toNat)
  case atStart => exact ⟨0, Nat.zero_le _, rfl, rfl⟩
  case round =>
    obtain ⟨k, hk, rfl, hal⟩ := hrel
    have HA : Hid (allI pwI (s.data.toList.take k) = true) := hal
    clear hal
    by_cases hlt : k < s.size
    · cases hp : pwI (s[k].toNat : Int)
      · go_wp2_with (go_at_call 127; refine (rw1_any _ _).mono ?_; rintro e w' ⟨rfl, rfl⟩)
        go_ret
        exact ⟨ret_bool (allI_false pwI s k hlt hp).symm, rfl⟩
      · go_wp2_with (go_at_call 127; refine (rw1_any _ _).mono ?_; rintro e w' ⟨rfl, rfl⟩)
        go_round
        case rel => exact ⟨k + 1, by omega, by go_num, by rw [take_snoc s k hlt, allI_snoc, HA.out, hp]; rfl⟩
        case measure => simp [intOf]; omega
    · go_wp2
      go_ret
      exact ⟨ret_bool (by have := HA.out; rw [List.take_of_length_le (by simp; omega)] at this; exact this.symm), rfl⟩

def rightWordB (l : List UInt8) : Bool := decide (l.length ≤ 16) && allI pwI l

set_option maxHeartbeats 400000 in
theorem rightWord_any (s : ByteArray) (w : World) (hs : s.size ≤ maxLen) :
    Calls Tryz.prog 122 #[.string s] w fun e w' => e = .returned (.bool (rightWordB s.data.toList)) ∧ w' = w := by
  have hs' := hs
  unfold maxLen at hs'
  have hl : s.data.toList.length = s.size := by simp
  have HL : Hid (s.data.toList.length = s.size) := hl
  clear hl
  by_cases h : s.size ≤ 16
  · go_enter Tryz.func122, Tryz.ntmps122
    go_wp2_with (go_at_call 49; refine (every_rw _ _ (by omega)).mono ?_; rintro e w' ⟨rfl, rfl⟩)
    go_ret
    exact ⟨ret_bool (by have := HL.out; simp only [rightWordB, this]; simp [h]), rfl⟩
  · go_enter Tryz.func122, Tryz.ntmps122
    go_wp2
    go_ret
    exact ⟨ret_bool (by have := HL.out; simp only [rightWordB, this]; simp [h]), rfl⟩

end Go.Proofs.YtoncleppenggaaaGreatDoor

namespace Go.Proofs.YtoncleppenggaaaGreatDoor
open Go.RowKit

theorem ret_str {a b : List UInt8} (h : a = b) : Ending.returned (.string ⟨a.toArray⟩) = .returned (.string ⟨b.toArray⟩) := by rw [h]

/-- Which values may be. -/
def rightValueB (k n : Int) (l : List UInt8) : Bool :=
  if k = 1 then decide (-1000000000 ≤ n) && (decide (n ≤ 1000000000) && l.isEmpty) else if k = 2 then rightWordB l && n == 0 else false

theorem below_box (w : World) (o : Obj) : Below w.heap.size w (w.alloc o) := (Below.refl _ _).alloc (Nat.le_refl _) o

theorem bool_false {b : Bool} (h : ¬ b = true) : b = false := by cases b <;> simp_all

set_option maxHeartbeats 400000 in
theorem rightValue_any (k n : Int) (s : ByteArray) (w : World) (hs : s.size ≤ maxLen) :
    Calls Tryz.prog 115 #[.agg #[.int .i64 k, .int .i64 n, .string s]] w fun e w' => e = .returned (.bool (rightValueB k n s.data.toList)) ∧ Below w.heap.size w w' := by
  go_enter Tryz.func115, Tryz.ntmps115
  go_wp2_with (go_at_call 122; refine (rightWord_any _ _ (by omega)).mono ?_; rintro e w' ⟨rfl, rfl⟩)
  all_goals go_ret
  all_goals refine ⟨ret_bool ?_, below_box _ _⟩
  all_goals simp_all [rightValueB, ByteArray.toList_eq]
  all_goals omega

def lessB (k n : Int) (l : List UInt8) (k' n' : Int) (l' : List UInt8) : Bool :=
  if k != k' then decide (k < k') else if k == 1 then decide (n < n') else Op.bytesLess l l'

end Go.Proofs.YtoncleppenggaaaGreatDoor

namespace Go.Proofs.YtoncleppenggaaaGreatDoor
open Go.RowKit

set_option maxHeartbeats 400000 in
theorem name2_any (n : Int) (a : Addr) (w : World) (hc : w.cell? a = some (.func (.func 48) #[] #[])) :
    Calls Tryz.prog 50 #[.int .u8 n, .pointer (some a)] w fun e w' => e = .returned (.bool (lowdigI n)) ∧ w' = w := by
  cases h0 : lowI n
  all_goals
    go_enter Tryz.func50, Tryz.ntmps50
    go_wp2_with (go_at_call 48; refine (name1_any _ _).mono ?_; rintro e w' ⟨rfl, rfl⟩)
  all_goals go_ret
  all_goals refine ⟨ret_bool ?_, rfl⟩
  all_goals first | (simp [lowdigI, *]; done) | (simp [lowdigI, h0]; omega)

set_option maxHeartbeats 400000 in
theorem every_nm (s : ByteArray) (a : Addr) (w : World) (hs : s.size ≤ maxLen) (hc : w.cell? a = some (.func (.func 48) #[] #[])) :
    Calls Tryz.prog 49 #[.string s, .func (.func 50) #[] #[.pointer (some a)]] w fun e w' => e = .returned (.bool (allI lowdigI s.data.toList)) ∧ w' = w := by
  unfold maxLen at hs
  go_enter Tryz.func49, Tryz.ntmps49
  go_wp2
  go_loop [8] (fun i => ∃ k : Nat, k ≤ s.size ∧ i = .int .i64 k ∧ allI lowdigI (s.data.toList.take k) = true) (fun i => s.size - (intOf i).toNat)
  case atStart => exact ⟨0, Nat.zero_le _, rfl, rfl⟩
  case round =>
    obtain ⟨k, hk, rfl, hal⟩ := hrel
    have HA : Hid (allI lowdigI (s.data.toList.take k) = true) := hal
    clear hal
    by_cases hlt : k < s.size
    · cases hp : lowdigI (s[k].toNat : Int)
      · go_wp2_with (go_at_call 50; refine (name2_any _ _ _ hc).mono ?_; rintro e w' ⟨rfl, rfl⟩)
        go_ret
        exact ⟨ret_bool (allI_false lowdigI s k hlt hp).symm, rfl⟩
      · go_wp2_with (go_at_call 50; refine (name2_any _ _ _ hc).mono ?_; rintro e w' ⟨rfl, rfl⟩)
        go_round
        case rel => exact ⟨k + 1, by omega, by go_num, by rw [take_snoc s k hlt, allI_snoc, HA.out, hp]; rfl⟩
        case measure => simp [intOf]; omega
    · go_wp2
      go_ret
      exact ⟨ret_bool (by have := HA.out; rw [List.take_of_length_le (by simp; omega)] at this; exact this.symm), rfl⟩

def nameB (l : List UInt8) : Bool := match l with
  | [] => false
  | c :: _ => decide (l.length ≤ 10) && (lowI (c.toNat : Int) && allI lowdigI l)

theorem nameB_of (s : ByteArray) (h0 : 0 < s.size) : nameB s.data.toList = (decide (s.size ≤ 10) && (lowI (s[0].toNat : Int) && allI lowdigI s.data.toList)) := by
  obtain ⟨⟨l⟩⟩ := s
  match l, h0 with
  | c :: r, _ => rfl
  | [], h => exact absurd h (by simp [ByteArray.size])

set_option maxHeartbeats 800000 in
theorem name_any (s : ByteArray) (w : World) (hs : s.size ≤ maxLen) :
    Calls Tryz.prog 32 #[.string s] w fun e w' => e = .returned (.bool (nameB s.data.toList)) ∧ Below w.heap.size w w' := by
  have hmf : ∀ (fn : Fn) (first cap : Array Value) (w : World), (Instr.makeFunc fn first cap).run Tryz.prog w = .ok (.func fn first cap) w := fun _ _ _ _ => rfl
  by_cases h0 : 0 < s.size
  · have hN := nameB_of s h0
    have HN : Hid (nameB s.data.toList = (decide (s.size ≤ 10) && (lowI (s[0].toNat : Int) && allI lowdigI s.data.toList))) := hN
    clear hN
    have he : (s.toList.isEmpty) = false := by
      rw [ByteArray.toList_eq]
      cases h : s.data.toList with
      | nil => have : s.data.toList.length = 0 := by rw [h]; rfl
               have h2 : s.size = 0 := by simpa using this
               omega
      | cons a b => rfl
    by_cases h1 : s.size ≤ 10
    · cases h2 : lowI (s[0].toNat : Int)
      · go_enter Tryz.func32, Tryz.ntmps32
        go_wp2
        go_quiet ((go_at_call 48; exact Calls.quiet_of_same (name1_any _ _)))
        go_wp2
        go_ret
        exact ⟨ret_bool (by rw [HN.out]; simp [h1, h2]), below_drewN (below_box _ _) _⟩
      · go_enter Tryz.func32, Tryz.ntmps32
        go_wp2
        go_region_with (first | (go_at_call 48; refine (name1_any _ _).mono ?_; rintro e w' ⟨rfl, rfl⟩) | (go_at_call 49; refine (every_nm _ _ _ hs (by simp)).mono ?_; rintro e w' ⟨rfl, rfl⟩))
        all_goals go_wp2
        all_goals go_ret
        all_goals exact ⟨ret_bool (by rw [HN.out]; simp [h1, h2]), (below_box _ _).drew⟩
    · go_enter Tryz.func32, Tryz.ntmps32
      go_wp2
      go_ret
      exact ⟨ret_bool (by rw [HN.out]; simp [h1]), Below.refl _ _⟩
  · have he : s.toList.isEmpty = true := by
      rw [ByteArray.toList_eq]
      have : s.data.toList.length = 0 := by have : s.data.toList.length = s.size := by simp
                                            omega
      rw [List.length_eq_zero_iff.1 this]; rfl
    have hn : nameB s.data.toList = false := by
      have := he
      rw [ByteArray.toList_eq, List.isEmpty_iff] at this
      rw [this]; rfl
    have HN : Hid (nameB s.data.toList = false) := hn
    clear hn
    go_enter Tryz.func32, Tryz.ntmps32
    go_wp2
    go_ret
    exact ⟨ret_bool HN.out.symm, Below.refl _ _⟩
end Go.Proofs.YtoncleppenggaaaGreatDoor

namespace Go.Proofs.YtoncleppenggaaaGreatDoor
open Go.RowKit

/-- Where a list of columns lies. -/
def ColsAt (w : World) (b o : Nat) (cs : List (ByteArray × Int)) : Prop :=
  ∀ (j : Nat) (h : j < cs.length), w.cell? ⟨b, o + j * 2, none⟩ = some (.string cs[j].1) ∧ w.cell? ⟨b, o + j * 2 + 1, none⟩ = some (.int .i64 cs[j].2)

theorem Hid.mk {p : Prop} (h : p) : Hid p := h

theorem ColsAt.below {w w' : World} {B b o : Nat} {cs : List (ByteArray × Int)} (h : ColsAt w b o cs) (hb : Below B w w') (hB : b < B) : ColsAt w' b o cs :=
  fun j hj => ⟨(hb.cell (p := ⟨b, o + j * 2, none⟩) hB).trans (h j hj).1, (hb.cell (p := ⟨b, o + j * 2 + 1, none⟩) hB).trans (h j hj).2⟩

def calledB (cs : List (ByteArray × Int)) (nm : List UInt8) : Bool := cs.any fun x => x.1.data.toList == nm

theorem called_snoc (cs : List (ByteArray × Int)) (nm : List UInt8) (k : Nat) (h : k < cs.length) : calledB (cs.take (k + 1)) nm = (calledB (cs.take k) nm || cs[k].1.data.toList == nm) := by
  rw [List.take_succ_eq_append_getElem h]; simp only [calledB, List.any_append, List.any_cons, List.any_nil, Bool.or_false]
theorem called_true (cs : List (ByteArray × Int)) (nm : List UInt8) (k : Nat) (h : k < cs.length) (hp : (cs[k].1.data.toList == nm) = true) : calledB cs nm = true := by
  unfold calledB
  rw [List.any_eq_true]
  exact ⟨_, List.getElem_mem h, hp⟩

set_option maxHeartbeats 400000 in
theorem called_any (b o n c : Nat) (cs : List (ByteArray × Int)) (nm : ByteArray) (w : World) (hn : cs.length = n) (hn' : n ≤ 100) (hb : b < w.heap.size) (hc : ColsAt w b o cs) :
    Calls Tryz.prog 67 #[.slice (some ⟨b, o, none⟩) n c, .string nm] w fun e w' => e = .returned (.bool (calledB cs nm.data.toList)) ∧ Below w.heap.size w w' := by
  have HN : Hid (cs.length = n) := hn
  clear hn
  go_enter Tryz.func67, Tryz.ntmps67
  go_wp2
  go_loopw [9] (fun i wr => ∃ k : Nat, k ≤ n ∧ i = .int .i64 k ∧ calledB (cs.take k) nm.data.toList = false ∧ Below w.heap.size w wr) (fun i _ => n - (intOf i).toNat)
  case atStart => exact ⟨0, Nat.zero_le _, rfl, rfl, Below.refl _ _⟩
  case round =>
    obtain ⟨k, hk, rfl, hal, hnx⟩ := hrel
    have HA : Hid (calledB (cs.take k) nm.data.toList = false) := hal
    clear hal
    by_cases hlt : k < n
    · have hk2 : k < cs.length := by have := HN.out; omega
      obtain ⟨c1, c2⟩ := hc k hk2
      have d1 := (hnx.cell (p := ⟨b, o + k * 2, none⟩) hb).trans c1
      have d2 := (hnx.cell (p := ⟨b, o + k * 2 + 1, none⟩) hb).trans c2
      clear c1 c2
      cases hp : (cs[k].1.toList == nm.toList)
      all_goals have hq := hp
      all_goals rw [ByteArray.toList_eq, ByteArray.toList_eq] at hq
      all_goals have HQ := Hid.mk hq
      all_goals clear hq
      · go_wp2
        go_roundw
        case rel => exact ⟨k + 1, by omega, by go_num, by rw [called_snoc cs _ k hk2, HA.out, HQ.out]; rfl, hnx.alloc hnx.size _⟩
        case measure => simp [intOf]; omega
      · go_wp2
        go_ret
        exact ⟨ret_bool (called_true cs _ k hk2 HQ.out).symm, hnx.alloc hnx.size _⟩
    · go_wp2
      go_ret
      exact ⟨ret_bool (by have := HA.out; rw [List.take_of_length_le (by have := HN.out; omega)] at this; exact this.symm), hnx⟩

/-- A row's text, cut at its first blank that does not lie between two quotes. -/
def cutV (q : Bool) : List UInt8 → List UInt8 × List UInt8 × Bool
  | [] => ([], [], false)
  | c :: r =>
    if c = 39 then (c :: (cutV (!q) r).1, (cutV (!q) r).2) else
    if c = 32 ∧ q = false then ([], r, true) else (c :: (cutV q r).1, (cutV q r).2)

theorem str_of {x : ByteArray} {a : List UInt8} (h : x.data.toList = a) : x = ⟨a.toArray⟩ := by rw [← h]
theorem ret3s {x y : ByteArray} {m m' : Bool} {a b : List UInt8} (h1 : x.data.toList = a) (h2 : y.data.toList = b) (h3 : m = m') : Ending.returned (.tuple #[.string x, .string y, .bool m]) = .returned (.tuple #[.string ⟨a.toArray⟩, .string ⟨b.toArray⟩, .bool m']) := by
  rw [str_of h1, str_of h2, h3]
theorem extract_take (s : ByteArray) (k : Nat) : (s.extract 0 k).data.toList = s.data.toList.take k := by simp [ByteArray.data_extract]
theorem extract_drop (s : ByteArray) (k : Nat) : (s.extract k s.size).data.toList = s.data.toList.drop k := by
  simp only [ByteArray.data_extract, Array.toList_extract]
  rw [List.extract_eq_take_drop, List.take_of_length_le (by simp)]

/-- What is told so far. -/
def cutTo (l : List UInt8) (k : Nat) (q : Bool) : Prop := cutV false l = (l.take k ++ (cutV q (l.drop k)).1, (cutV q (l.drop k)).2)

theorem cutTo_zero (l : List UInt8) : cutTo l 0 false := by simp [cutTo]
theorem drop_at (s : ByteArray) (k : Nat) (h : k < s.size) : s.data.toList.drop k = s[k] :: s.data.toList.drop (k + 1) := by
  rw [List.drop_eq_getElem_cons (by simpa using h)]; rfl
theorem cutTo_quote {s : ByteArray} {k : Nat} {q : Bool} (h : k < s.size) (hc : s[k] = 39) (ht : cutTo s.data.toList k q) : cutTo s.data.toList (k + 1) (!q) := by
  unfold cutTo at ht ⊢
  rw [ht, drop_at s k h, take_snoc s k h]; simp [cutV, hc]
theorem cutTo_other {s : ByteArray} {k : Nat} {q : Bool} (h : k < s.size) (hc : s[k] ≠ 39) (hb : ¬ (s[k] = 32 ∧ q = false)) (ht : cutTo s.data.toList k q) : cutTo s.data.toList (k + 1) q := by
  unfold cutTo at ht ⊢
  rw [ht, drop_at s k h, take_snoc s k h]; simp only [cutV, hc, hb, if_false, List.append_assoc]; rfl
theorem cutTo_blank {s : ByteArray} {k : Nat} {q : Bool} (h : k < s.size) (hb : s[k] = 32 ∧ q = false) (ht : cutTo s.data.toList k q) : cutV false s.data.toList = (s.data.toList.take k, s.data.toList.drop (k + 1), true) := by
  unfold cutTo at ht
  rw [ht, drop_at s k h]; simp [cutV, hb]
theorem cutTo_end {s : ByteArray} {q : Bool} (ht : cutTo s.data.toList s.size q) : cutV false s.data.toList = (s.data.toList, [], false) := by
  unfold cutTo at ht
  rw [ht, List.drop_eq_nil_of_le (by simp), List.take_of_length_le (by simp)]; simp [cutV]

theorem byte_eq {c : UInt8} {n : Nat} (hn : n < 256) (h : ((c.toNat : Int) == (n : Int)) = true) : c = UInt8.ofNat n := by
  have h' : (c.toNat : Int) = (n : Int) := by simpa using h
  have : c.toNat = n := by omega
  apply UInt8.toNat_inj.1
  rw [this]; simp; omega
theorem byte_ne {c : UInt8} {n : Nat} (h : ((c.toNat : Int) == (n : Int)) = false) : c ≠ UInt8.ofNat n ∨ 256 ≤ n := by
  by_cases hn : n < 256
  · left
    intro e
    subst e
    have : (UInt8.ofNat n).toNat = n := by simp; omega
    rw [this] at h; simp at h
  · right; omega

end Go.Proofs.YtoncleppenggaaaGreatDoor

