import Derived.Test.YtjceppinfjbegaaGreatDoorWalkN
import Derived.Lib.ItoaLen
import Derived.Deep.RegionHeld3
import Derived.Deep.AppendLies
set_option linter.unusedSimpArgs false
set_option linter.unusedVariables false
namespace Go.Proofs.YtjceppinfjbegaaGreatDoor
open Go.RowKit

def lineL (xs : List (List UInt8)) : List UInt8 := Lib.join xs [32] ++ [10]

theorem lens_le (r : List (List UInt8)) (h : ∀ x ∈ r, x.length ≤ 1000) : Lib.lens r ≤ 1000 * r.length := by
  induction r with
  | nil => simp [Lib.lens]
  | cons x r ih =>
    have h1 := h x (by simp)
    have h2 := ih (fun y hy => h y (by simp [hy]))
    simp only [Lib.lens, List.map_cons, List.sum_cons, List.length_cons] at h2 ⊢
    omega
theorem join_le (xs : List (List UInt8)) (hn : xs.length ≤ 100) (h : ∀ x ∈ xs, x.length ≤ 1000) : (Lib.join xs [32]).length ≤ 100100 := by
  cases xs with
  | nil => simp [Lib.join_nil]
  | cons x r =>
    rw [Lib.join_length]
    have := lens_le (x :: r) h
    simp at hn this ⊢
    omega

set_option maxHeartbeats 400000 in
theorem line_any (v : Value) (xs : List ByteArray) (base : Nat) (w : World) (h : w.ownsRow base 9 1 v xs.length (xs.map Value.string)) (hne : xs ≠ []) (hn : xs.length ≤ 100) (hsz : ∀ x ∈ xs, x.size ≤ 1000) :
    Calls Tryz.prog 99 #[v] w fun e w' => e = .returned (.string ⟨(lineL (xs.map (·.data.toList))).toArray⟩) ∧ Below w.heap.size w w' := by
  unfold lineL
  have h0 := h
  have hpos := List.length_pos_iff.2 hne
  obtain ⟨-, ⟨-, hn0⟩ | ⟨g, cap, cur, rfl, hg, -, hcap, hm, -, -⟩⟩ := h
  · omega
  have hlt := (h0.lt g rfl).2
  have hjl := join_le (xs.map (·.data.toList)) (by simpa using hn) (by
    intro x hx
    rw [List.mem_map] at hx
    obtain ⟨y, hy, rfl⟩ := hx
    simpa using hsz y hy)
  have HJ : Hid (Calls Tryz.prog 132 #[.slice (some ⟨g, 0, none⟩) xs.length cap, .string ⟨#[32]⟩] w fun e w' => e = .returned (.string ⟨(Lib.join (xs.map (·.data.toList)) [32]).toArray⟩) ∧ Below w.heap.size w w') := (Tryz.strings_Join g 0 cap xs ⟨#[32]⟩ w (fun j x hx => by
    have hj : j < xs.length := (List.getElem?_eq_some_iff.1 hx).1
    rw [show 0 + j = j by omega, h0.cellAt j (by omega), List.getElem?_map, hx]; rfl) hlt (by omega) hcap (by simpa using Nat.le_trans hjl (by decide)))
  have hjl2 : (Lib.join (xs.map (·.data.toList)) [32]).length ≤ 100100 := hjl
  clear h0 hjl hsz
  generalize Lib.join (xs.map (·.data.toList)) [32] = J at *
  go_enter Tryz.func99, Tryz.ntmps99
  go_wp2_with (go_at_call 132; refine HJ.out.mono ?_; rintro e w1 ⟨rfl, hb1⟩)
  go_ret
  exact ⟨ret_strB (by simp), hb1⟩
end Go.Proofs.YtjceppinfjbegaaGreatDoor

namespace Go.Proofs.YtjceppinfjbegaaGreatDoor
open Go.RowKit

def kw (k : Int) : ByteArray := if k = 1 then ⟨#[105, 110, 116]⟩ else ⟨#[116, 101, 120, 116]⟩
def headB (c : Cl) : ByteArray := c.1 ++ ⟨#[58]⟩ ++ kw c.2
def textB (v : Vl) : ByteArray := ⟨(valueL v.1 v.2.1 v.2.2.data.toList).toArray⟩
def headL (cs : List Cl) : List UInt8 := lineL (cs.map fun c => (headB c).data.toList)
def rowL (vs : List Vl) : List UInt8 := lineL (vs.map fun v => valueL v.1 v.2.1 v.2.2.data.toList)
/-- What a table is written as. -/
def printL (cs : List Cl) (rs : List (List Vl)) : List UInt8 := headL cs ++ rs.flatMap rowL

theorem builder_below {T e : TypeId} {B b : Nat} {bs : List Value} {w w' : World} (h : Lib.IsBuilder T e B b bs w) (hb : Below w.heap.size w w') : Lib.IsBuilder T e B b bs w' := by
  have go : ∀ p, Lib.BuilderAt T e B b p bs w → Lib.BuilderAt T e B b p bs w' := by
    rintro p ⟨h1, v, h2, h3, h4⟩
    have hl : b < w.heap.size := by
      rcases Nat.lt_or_ge b w.heap.size with h | h
      · exact h
      · rw [Array.getElem?_eq_none h] at h2; simp at h2
    exact ⟨h1, v, (hb.block b hl).trans h2, owns_below h3 hb, h4⟩
  rcases h with h | h
  · exact Or.inl (go _ h)
  · exact Or.inr (go _ h)
theorem builder_lt {T e : TypeId} {B b : Nat} {bs : List Value} {w : World} (h : Lib.IsBuilder T e B b bs w) : b < w.heap.size := by
  rcases h with h | h <;> exact h.lt
theorem builder_new (w : World) : Lib.IsBuilder 141 5 w.heap.size w.heap.size [] (w.alloc (.cells #[.pointer none, .slice none 0 0] 141)) :=
  Or.inl ⟨Nat.le_refl _, .slice none 0 0, heap_alloc_new _ _, World.ownsRow_nil _ _ _ _, by simp [Value.ownBlock]⟩

theorem right_cols {cs : List Cl} {rs : List (List Vl)} (h : rightB cs rs = true) : rightColsB cs = true ∧ rs.length ≤ 60 ∧ ∀ r ∈ rs, rowOK r cs = true := by
  simp [rightB] at h
  exact ⟨h.1, h.2.1, fun r hr => h.2.2 r hr⟩
theorem colsOK_each : ∀ (cs seen : List Cl), colsOK seen cs = true → ∀ c ∈ cs, nameB c.1.data.toList = true ∧ kindB c.2 = true
  | [], _, _, c, hc => absurd hc (by simp)
  | d :: r, seen, h, c, hc => by
    simp [colsOK] at h
    rcases List.mem_cons.1 hc with rfl | hc
    · exact ⟨h.1, h.2.1⟩
    · exact colsOK_each r _ h.2.2.2 c hc
theorem cols_each {cs : List Cl} (h : rightColsB cs = true) (c : Cl) (hc : c ∈ cs) : c.1.size ≤ 10 ∧ (c.2 = 1 ∨ c.2 = 2) := by
  simp [rightColsB] at h
  have := colsOK_each cs [] h.2.2 c hc
  refine ⟨?_, by simpa [kindB] using this.2⟩
  have h1 := this.1
  have hz : c.1.data.toList.length = c.1.size := by simp
  unfold nameB at h1
  split at h1
  · simp at h1
  · simp at h1; rename_i x y z; rw [z] at hz; simp at hz; omega
theorem rowOK_each : ∀ (vs : List Vl) (cs : List Cl), rowOK vs cs = true → ∀ v ∈ vs, rvB v = true
  | [], [], _, v, hv => absurd hv (by simp)
  | [], _ :: _, h, _, _ => by simp [rowOK] at h
  | _ :: _, [], h, _, _ => by simp [rowOK] at h
  | x :: r, c :: q, h, v, hv => by
    simp [rowOK] at h
    rcases List.mem_cons.1 hv with rfl | hv
    · exact h.2.1
    · exact rowOK_each r q h.2.2 v hv
theorem rowOK_len : ∀ (vs : List Vl) (cs : List Cl), rowOK vs cs = true → vs.length = cs.length := fun vs cs h => by
  rcases Nat.decEq vs.length cs.length with h' | h'
  · rw [rowOK_lens vs cs h'] at h; simp at h
  · exact h'
theorem text_len {v : Vl} (h : rvB v = true) : (valueL v.1 v.2.1 v.2.2.data.toList).length ≤ 30 ∧ v.2.2.size ≤ 16 ∧ -1000000000 ≤ v.2.1 ∧ v.2.1 ≤ 1000000000 := by
  have h1 := right_small h
  have hz : v.2.2.data.toList.length = v.2.2.size := by simp
  refine ⟨?_, by omega, h1.2.1, h1.2.2⟩
  unfold valueL
  split
  · have := Lib.itoa_length_le v.2.1 (by omega) (by omega); omega
  · simp; omega
theorem head_size {c : Cl} (h : c.1.size ≤ 10) : (headB c).size ≤ 1000 := by
  have : (kw c.2).size ≤ 4 := by unfold kw; split <;> decide
  unfold headB
  simp only [ByteArray.size_append]
  have h1 : (ByteArray.mk #[58]).size = 1 := rfl
  omega

theorem lineL_len (xs : List (List UInt8)) (hn : xs.length ≤ 100) (h : ∀ x ∈ xs, x.length ≤ 1000) : (lineL xs).length ≤ 110000 := by
  have := join_le xs hn h
  unfold lineL
  simp
  omega
theorem headL_len {cs : List Cl} (hn : cs.length ≤ 6) (h : ∀ c ∈ cs, c.1.size ≤ 10) : (headL cs).length ≤ 110000 := by
  refine lineL_len _ (by simp; omega) ?_
  intro x hx
  rw [List.mem_map] at hx
  obtain ⟨c, hc, rfl⟩ := hx
  have := head_size (h c hc)
  simpa using this
theorem rowL_len {vs : List Vl} (hn : vs.length ≤ 6) (h : ∀ v ∈ vs, rvB v = true) : (rowL vs).length ≤ 110000 := by
  refine lineL_len _ (by simp; omega) ?_
  intro x hx
  rw [List.mem_map] at hx
  obtain ⟨v, hv, rfl⟩ := hx
  have := (text_len (h v hv)).1
  omega
theorem rows_len : ∀ (rs : List (List Vl)), (∀ r ∈ rs, (rowL r).length ≤ 110000) → (rs.flatMap rowL).length ≤ 110000 * rs.length
  | [], _ => by simp
  | r :: q, h => by
    have h1 := h r (by simp)
    have h2 := rows_len q (fun x hx => h x (by simp [hx]))
    simp only [List.flatMap_cons, List.length_append, List.length_cons]
    omega

theorem Tryz.infoStr : (Tryz.prog.info? 9).map (fun i => (i.zero, i.size, i.bytes)) = some (some (.string ⟨#[]⟩), 1, 16) := by kernel_rfl

set_option maxHeartbeats 800000 in
theorem print_bad (vc vr : Value) (cs : List Cl) (rs : List (List Vl)) (w : World) (hc : ColsIs w vc cs) (hr : RowsIs w vr rs) (hg : rightB cs rs = false) :
    Calls Tryz.prog 58 #[.agg #[vc, vr]] w fun e w' => e = .returned (.tuple #[.string ⟨#[]⟩, .iface 40 (.int .i64 1)]) ∧ Below w.heap.size w w' := by
  have hR := right_any vc vr cs rs _ (hc.below (below_box w (.cells #[vc, vr] 36))) (hr.below (below_box w (.cells #[vc, vr] 36)))
  rw [hg] at hR
  obtain ⟨a, c, rfl, -⟩ := hc
  obtain ⟨a', c', rfl, -⟩ := hr
  have HR := Hid.mk hR
  clear hR hg
  go_enter Tryz.func58, Tryz.ntmps58
  go_wp2_with (go_at_call 48; refine HR.out.mono ?_; rintro e w1 ⟨rfl, hb1⟩)
  go_ret2
  exact ⟨rfl, (below_box _ _).trans (hb1.mono (by simp))⟩
end Go.Proofs.YtjceppinfjbegaaGreatDoor

