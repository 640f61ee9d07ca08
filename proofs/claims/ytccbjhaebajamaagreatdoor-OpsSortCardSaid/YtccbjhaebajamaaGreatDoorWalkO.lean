import Derived.Test.YtccbjhaebajamaaGreatDoorWalkN
import Derived.Lib.ItoaLen
import Derived.Deep.RegionHeld3
import Derived.Deep.AppendLies
set_option linter.unusedSimpArgs false
set_option linter.unusedVariables false
namespace Go.Proofs.YtccbjhaebajamaaGreatDoor
open Go.RowKit

def lineL (xs : List (List UInt8)) : List UInt8 := Lib.join xs [32] ++ [10]

theorem lens_le (r : List (List UInt8)) (h : ∀ x ∈ r, x.length ≤ 1000) : Lib.lens r ≤ 1000 * r.length := by
  induction r with
  | nil => simp [Lib.lens]
  | cons x r ih =>
    have h1 := h x (by simp)
    have h2 := ih (fun y hy => h y (by simp [hy]))
    simp only [Lib.lens, List.map_cons, List.sum_cons, List.length_cons] at h2 ⊢
    omega
theorem join_le (xs : List (List UInt8)) (hn : xs.length ≤ 100) (h : ∀ x ∈ xs, x.length ≤ 1000) : (Lib.join xs [32]).length ≤ 100100 := by
  cases xs with
  | nil => simp [Lib.join_nil]
  | cons x r =>
    rw [Lib.join_length]
    have := lens_le (x :: r) h
    simp at hn this ⊢
    omega

set_option maxHeartbeats 400000 in
theorem line_any (v : Value) (xs : List ByteArray) (base : Nat) (w : World) (h : w.ownsRow base 9 1 v xs.length (xs.map Value.string)) (hne : xs ≠ []) (hn : xs.length ≤ 100) (hsz : ∀ x ∈ xs, x.size ≤ 1000) :
    Calls Tryz.prog 51 #[v] w fun e w' => e = .returned (.string ⟨(lineL (xs.map (·.data.toList))).toArray⟩) ∧ Below w.heap.size w w' := by
  unfold lineL
  have h0 := h
  have hpos := List.length_pos_iff.2 hne
  obtain ⟨-, ⟨-, hn0⟩ | ⟨g, cap, cur, rfl, hg, -, hcap, hm, -, -⟩⟩ := h
  · omega
  have hlt := (h0.lt g rfl).2
  have hjl := join_le (xs.map (·.data.toList)) (by simpa using hn) (by
    intro x hx
    rw [List.mem_map] at hx
    obtain ⟨y, hy, rfl⟩ := hx
    simpa using hsz y hy)
  have HJ : Hid (Calls Tryz.prog 81 #[.slice (some ⟨g, 0, none⟩) xs.length cap, .string ⟨#[32]⟩] w fun e w' => e = .returned (.string ⟨(Lib.join (xs.map (·.data.toList)) [32]).toArray⟩) ∧ Below w.heap.size w w') := (Tryz.strings_Join g 0 cap xs ⟨#[32]⟩ w (fun j x hx => by
    have hj : j < xs.length := (List.getElem?_eq_some_iff.1 hx).1
    rw [show 0 + j = j by omega, h0.cellAt j (by omega), List.getElem?_map, hx]; rfl) hlt (by omega) hcap (by simpa using Nat.le_trans hjl (by decide)))
  have hjl2 : (Lib.join (xs.map (·.data.toList)) [32]).length ≤ 100100 := hjl
  clear h0 hjl hsz
  generalize Lib.join (xs.map (·.data.toList)) [32] = J at *
  go_enter Tryz.func51, Tryz.ntmps51
  go_wp2_with (go_at_call 81; refine HJ.out.mono ?_; rintro e w1 ⟨rfl, hb1⟩)
  go_ret
  exact ⟨ret_strB (by simp), hb1⟩
end Go.Proofs.YtccbjhaebajamaaGreatDoor
