import Derived.Test.YtedflhiflomoeaaGreatDoorWalkC
set_option linter.unusedSimpArgs false
set_option linter.unusedVariables false
namespace Go.Proofs.YtedflhiflomoeaaGreatDoor
open Go.RowKit

/-- Where a list of columns lies. -/
def ColsAt (w : World) (b o : Nat) (cs : List (ByteArray × Int)) : Prop :=
  ∀ (j : Nat) (h : j < cs.length), w.cell? ⟨b, o + j * 2, none⟩ = some (.string cs[j].1) ∧ w.cell? ⟨b, o + j * 2 + 1, none⟩ = some (.int .i64 cs[j].2)

theorem Hid.mk {p : Prop} (h : p) : Hid p := h

theorem ColsAt.below {w w' : World} {B b o : Nat} {cs : List (ByteArray × Int)} (h : ColsAt w b o cs) (hb : Below B w w') (hB : b < B) : ColsAt w' b o cs :=
  fun j hj => ⟨(hb.cell (p := ⟨b, o + j * 2, none⟩) hB).trans (h j hj).1, (hb.cell (p := ⟨b, o + j * 2 + 1, none⟩) hB).trans (h j hj).2⟩

def calledB (cs : List (ByteArray × Int)) (nm : List UInt8) : Bool := cs.any fun x => x.1.data.toList == nm

theorem called_snoc (cs : List (ByteArray × Int)) (nm : List UInt8) (k : Nat) (h : k < cs.length) : calledB (cs.take (k + 1)) nm = (calledB (cs.take k) nm || cs[k].1.data.toList == nm) := by
  rw [List.take_succ_eq_append_getElem h]; simp only [calledB, List.any_append, List.any_cons, List.any_nil, Bool.or_false]
theorem called_true (cs : List (ByteArray × Int)) (nm : List UInt8) (k : Nat) (h : k < cs.length) (hp : (cs[k].1.data.toList == nm) = true) : calledB cs nm = true := by
  unfold calledB
  rw [List.any_eq_true]
  exact ⟨_, List.getElem_mem h, hp⟩

/-- A row's text, cut at its first blank that does not lie between two quotes. -/
def cutV (q : Bool) : List UInt8 → List UInt8 × List UInt8 × Bool
  | [] => ([], [], false)
  | c :: r =>
    if c = 39 then (c :: (cutV (!q) r).1, (cutV (!q) r).2) else
    if c = 32 ∧ q = false then ([], r, true) else (c :: (cutV q r).1, (cutV q r).2)

theorem str_of {x : ByteArray} {a : List UInt8} (h : x.data.toList = a) : x = ⟨a.toArray⟩ := by rw [← h]
theorem ret3s {x y : ByteArray} {m m' : Bool} {a b : List UInt8} (h1 : x.data.toList = a) (h2 : y.data.toList = b) (h3 : m = m') : Ending.returned (.tuple #[.string x, .string y, .bool m]) = .returned (.tuple #[.string ⟨a.toArray⟩, .string ⟨b.toArray⟩, .bool m']) := by
  rw [str_of h1, str_of h2, h3]
theorem extract_take (s : ByteArray) (k : Nat) : (s.extract 0 k).data.toList = s.data.toList.take k := by simp [ByteArray.data_extract]
theorem extract_drop (s : ByteArray) (k : Nat) : (s.extract k s.size).data.toList = s.data.toList.drop k := by
  simp only [ByteArray.data_extract, Array.toList_extract]
  rw [List.extract_eq_take_drop, List.take_of_length_le (by simp)]

/-- What is told so far. -/
def cutTo (l : List UInt8) (k : Nat) (q : Bool) : Prop := cutV false l = (l.take k ++ (cutV q (l.drop k)).1, (cutV q (l.drop k)).2)

theorem cutTo_zero (l : List UInt8) : cutTo l 0 false := by simp [cutTo]
theorem drop_at (s : ByteArray) (k : Nat) (h : k < s.size) : s.data.toList.drop k = s[k] :: s.data.toList.drop (k + 1) := by
  rw [List.drop_eq_getElem_cons (by simpa using h)]; rfl
theorem cutTo_quote {s : ByteArray} {k : Nat} {q : Bool} (h : k < s.size) (hc : s[k] = 39) (ht : cutTo s.data.toList k q) : cutTo s.data.toList (k + 1) (!q) := by
  unfold cutTo at ht ⊢
  rw [ht, drop_at s k h, take_snoc s k h]; simp [cutV, hc]
theorem cutTo_other {s : ByteArray} {k : Nat} {q : Bool} (h : k < s.size) (hc : s[k] ≠ 39) (hb : ¬ (s[k] = 32 ∧ q = false)) (ht : cutTo s.data.toList k q) : cutTo s.data.toList (k + 1) q := by
  unfold cutTo at ht ⊢
  rw [ht, drop_at s k h, take_snoc s k h]; simp only [cutV, hc, hb, if_false, List.append_assoc]; rfl
theorem cutTo_blank {s : ByteArray} {k : Nat} {q : Bool} (h : k < s.size) (hb : s[k] = 32 ∧ q = false) (ht : cutTo s.data.toList k q) : cutV false s.data.toList = (s.data.toList.take k, s.data.toList.drop (k + 1), true) := by
  unfold cutTo at ht
  rw [ht, drop_at s k h]; simp [cutV, hb]
theorem cutTo_end {s : ByteArray} {q : Bool} (ht : cutTo s.data.toList s.size q) : cutV false s.data.toList = (s.data.toList, [], false) := by
  unfold cutTo at ht
  rw [ht, List.drop_eq_nil_of_le (by simp), List.take_of_length_le (by simp)]; simp [cutV]

theorem byte_eq {c : UInt8} {n : Nat} (hn : n < 256) (h : ((c.toNat : Int) == (n : Int)) = true) : c = UInt8.ofNat n := by
  have h' : (c.toNat : Int) = (n : Int) := by simpa using h
  have : c.toNat = n := by omega
  apply UInt8.toNat_inj.1
  rw [this]; simp; omega
theorem byte_ne {c : UInt8} {n : Nat} (h : ((c.toNat : Int) == (n : Int)) = false) : c ≠ UInt8.ofNat n ∨ 256 ≤ n := by
  by_cases hn : n < 256
  · left
    intro e
    subst e
    have : (UInt8.ofNat n).toNat = n := by simp; omega
    rw [this] at h; simp at h
  · right; omega

end Go.Proofs.YtedflhiflomoeaaGreatDoor
