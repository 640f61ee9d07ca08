import Derived.Test.YtccbjhaebajamaaGreatDoorOpsC
set_option linter.unusedSimpArgs false
set_option linter.unusedVariables false
namespace Go.Proofs.YtccbjhaebajamaaGreatDoor
open Go.RowKit

/-- Tables in a list. -/
abbrev Tb := List Cl × List (List Vl)
def TabsAt (w : World) (b o : Nat) (ts : List Tb) : Prop := ∀ (j : Nat) (h : j < ts.length), ∃ vc vr, w.cell? ⟨b, o + j * 2, none⟩ = some vc ∧ w.cell? ⟨b, o + j * 2 + 1, none⟩ = some vr ∧ ColsIs w vc ts[j].1 ∧ RowsIs w vr ts[j].2
theorem TabsAt.below {w w' : World} {b o : Nat} {ts : List Tb} (h : TabsAt w b o ts) (hb : Below w.heap.size w w') (hl : b < w.heap.size) : TabsAt w' b o ts := fun j hj => by
  obtain ⟨vc, vr, h1, h2, h3, h4⟩ := h j hj
  exact ⟨vc, vr, (hb.cell (p := ⟨b, o + j * 2, none⟩) hl).trans h1, (hb.cell (p := ⟨b, o + j * 2 + 1, none⟩) hl).trans h2, h3.below hb, h4.below hb⟩

def eI (n : Int) : Value := .iface 80 (.int .i64 n)
def sizesI (code : Int) : Int × Int := if code = 5 ∨ code = 7 then (2, 1) else if code = 9 then (1, 2) else if 1 ≤ code ∧ code ≤ 8 then (1, 1) else (0, 0)

set_option maxHeartbeats 800000 in
theorem sizes_any (code : Int) (w : World) :
    Calls Tryz.prog 63 #[.int .i64 code] w fun e w' => e = .returned (.tuple #[.int .i64 (sizesI code).1, .int .i64 (sizesI code).2]) ∧ w' = w := by
  by_cases h : 1 ≤ code ∧ code ≤ 9
  · have : code = 1 ∨ code = 2 ∨ code = 3 ∨ code = 4 ∨ code = 5 ∨ code = 6 ∨ code = 7 ∨ code = 8 ∨ code = 9 := by omega
    clear h
    rcases this with h | h | h | h | h | h | h | h | h
    all_goals
      subst h
      go_enter Tryz.func63, Tryz.ntmps63
      go_wp2
      go_ret2
      exact ⟨rfl, rfl⟩
  · have e1 : ¬ (code = 1) := by omega
    have e2 : ¬ (code = 2) := by omega
    have e3 : ¬ (code = 3) := by omega
    have e4 : ¬ (code = 4) := by omega
    have e5 : ¬ (code = 5) := by omega
    have e6 : ¬ (code = 6) := by omega
    have e7 : ¬ (code = 7) := by omega
    have e8 : ¬ (code = 8) := by omega
    have e9 : ¬ (code = 9) := by omega
    have hs : sizesI code = (0, 0) := by
      unfold sizesI
      rw [if_neg (by omega), if_neg e9, if_neg (by omega)]
    rw [hs]
    clear h hs
    go_enter Tryz.func63, Tryz.ntmps63
    go_wp2
    go_ret2
    exact ⟨rfl, rfl⟩

/-- The kind of an argument. -/
def kindA (cs : List Cl) (x : Ag) : Int := if x.1.data.toList = [] then (if rvB x.2 = true then x.2.1 else 0) else match placeN cs x.1.data.toList with
  | some i => if x.2.1 = 0 ∧ x.2.2.1 = 0 ∧ x.2.2.2.data.toList = [] then (cs[i]?.getD (⟨#[]⟩, 0)).2 else 0
  | none => 0
end Go.Proofs.YtccbjhaebajamaaGreatDoor
