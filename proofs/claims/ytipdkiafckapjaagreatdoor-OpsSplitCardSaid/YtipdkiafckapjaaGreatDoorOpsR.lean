import Derived.Test.YtipdkiafckapjaaGreatDoorOpsQ
import Derived.MapKept
set_option linter.unusedSimpArgs false
set_option linter.unusedVariables false
namespace Go.Proofs.YtipdkiafckapjaaGreatDoor
open Go.RowKit Go.MapKept

/-- The other one. -/
def oppL (op : List UInt8) : List UInt8 := if op = [61] then [60, 62] else if op = [60, 62] then [61] else if op = [60] then [62, 61] else if op = [62, 61] then [60] else if op = [62] then [60, 61] else if op = [60, 61] then [62] else []
def oppE : Array MapEntry := #[⟨.string ⟨#[61]⟩, .string ⟨#[60, 62]⟩, 0⟩, ⟨.string ⟨#[60, 62]⟩, .string ⟨#[61]⟩, 1⟩, ⟨.string ⟨#[60]⟩, .string ⟨#[62, 61]⟩, 2⟩, ⟨.string ⟨#[62, 61]⟩, .string ⟨#[60]⟩, 3⟩, ⟨.string ⟨#[62]⟩, .string ⟨#[60, 61]⟩, 4⟩, ⟨.string ⟨#[60, 61]⟩, .string ⟨#[62]⟩, 5⟩]

theorem alloc_again (w : World) (o o' : Obj) : ({ w.alloc o with heap := (w.alloc o).heap.setIfInBounds w.heap.size o' } : World) = w.alloc o' := by
  show ({ w with heap := (w.heap.push o).setIfInBounds w.heap.size o' } : World) = { w with heap := w.heap.push o' }
  congr 1
  apply Array.ext_getElem?
  intro k
  rw [Array.getElem?_setIfInBounds, Array.getElem?_push, Array.getElem?_push]
  by_cases hk : w.heap.size = k
  · subst hk; simp
  · simp [hk, Ne.symm hk]
theorem put_new (w : World) (es : Array MapEntry) (c : Nat) (k v : ByteArray) (H : Nat) (hH : w.heap.size = H) (h : Instr.findNow .string (.string k) es.toList 0 = some none) :
    (Instr.mapUpdate 43 (.map (some H)) (.string k) (.string v)).run Tryz.prog (w.alloc (.map es c)) = .ok () (w.alloc (.map (es.push ⟨.string k, .string v, c⟩) (c + 1))) := by
  subst hH
  have hb := (heap_alloc w (.map es c)).1
  have hk : IsKey .string (.string k) := trivial
  simp only [Instr.mapUpdate, Sem.run_bind, run_underlying Tryz.underlying43, Go.MapKept.run_getObj_map hb, Go.MapKept.run_checkKey Tryz.underlying9 hk, Go.MapKept.run_findKey Tryz.underlying9 h, Go.MapKept.run_setObj_map _ hb, Result.andThen]
  rw [alloc_again]
theorem ba_ne {a : ByteArray} {l : List UInt8} (h : ¬ a.data.toList = l) : (a == ⟨l.toArray⟩) = false := by
  cases hb : (a == ⟨l.toArray⟩) with
  | false => rfl
  | true => exact absurd (by rw [(bytes_beq _ _).1 hb]) h
theorem zero_str (w : World) : (zeroValue 9).run Tryz.prog w = .ok (.string ⟨#[]⟩) w := by
  have hi : (Tryz.prog.info? 9).map (·.zero) = some (some (.string ⟨#[]⟩)) := by kernel_rfl
  cases h : Tryz.prog.info? 9 with
  | none => rw [h] at hi; cases hi
  | some i =>
    rw [h] at hi
    simp only [Option.map_some, Option.some.injEq] at hi
    simp [zeroValue, typeInfo, Sem.run_bind, h, hi, Result.andThen]
theorem get_at (w : World) (op v : ByteArray) (i : Nat) (h : Instr.findNow .string (.string op) oppE.toList 0 = some (some (i, .string v))) :
    (Instr.lookup 43 (.map (some w.heap.size)) (.string op) false).run Tryz.prog (w.alloc (.map oppE 6)) = .ok (.string v) (w.alloc (.map oppE 6)) := by
  have hb := (heap_alloc w (.map oppE 6)).1
  have hk : IsKey .string (.string op) := trivial
  simp [Instr.lookup, Sem.run_bind, run_underlying Tryz.underlying43, Go.MapKept.run_getObj_map hb, Go.MapKept.run_checkKey Tryz.underlying9 hk, Go.MapKept.run_findKey Tryz.underlying9 h, Result.andThen]
theorem get_none (w : World) (op : ByteArray) (h : Instr.findNow .string (.string op) oppE.toList 0 = some none) :
    (Instr.lookup 43 (.map (some w.heap.size)) (.string op) false).run Tryz.prog (w.alloc (.map oppE 6)) = .ok (.string ⟨#[]⟩) (w.alloc (.map oppE 6)) := by
  have hb := (heap_alloc w (.map oppE 6)).1
  have hk : IsKey .string (.string op) := trivial
  simp [Instr.lookup, Sem.run_bind, run_underlying Tryz.underlying43, Go.MapKept.run_getObj_map hb, Go.MapKept.run_checkKey Tryz.underlying9 hk, Go.MapKept.run_findKey Tryz.underlying9 h, zero_str, Result.andThen]
theorem get_opp (w : World) (op : ByteArray) (H : Nat) (hH : w.heap.size = H) :
    (Instr.lookup 43 (.map (some H)) (.string op) false).run Tryz.prog (w.alloc (.map oppE 6)) = .ok (.string ⟨(oppL op.data.toList).toArray⟩) (w.alloc (.map oppE 6)) := by
  subst hH
  by_cases h0 : op.data.toList = [61]
  · obtain rfl : op = ⟨#[61]⟩ := str_of h0
    exact get_at w _ ⟨#[60, 62]⟩ 0 (by kernel_rfl)
  by_cases h1 : op.data.toList = [60, 62]
  · obtain rfl : op = ⟨#[60, 62]⟩ := str_of h1
    exact get_at w _ ⟨#[61]⟩ 1 (by kernel_rfl)
  by_cases h2 : op.data.toList = [60]
  · obtain rfl : op = ⟨#[60]⟩ := str_of h2
    exact get_at w _ ⟨#[62, 61]⟩ 2 (by kernel_rfl)
  by_cases h3 : op.data.toList = [62, 61]
  · obtain rfl : op = ⟨#[62, 61]⟩ := str_of h3
    exact get_at w _ ⟨#[60]⟩ 3 (by kernel_rfl)
  by_cases h4 : op.data.toList = [62]
  · obtain rfl : op = ⟨#[62]⟩ := str_of h4
    exact get_at w _ ⟨#[60, 61]⟩ 4 (by kernel_rfl)
  by_cases h5 : op.data.toList = [60, 61]
  · obtain rfl : op = ⟨#[60, 61]⟩ := str_of h5
    exact get_at w _ ⟨#[62]⟩ 5 (by kernel_rfl)
  have e : oppL op.data.toList = [] := by simp [oppL, h0, h1, h2, h3, h4, h5]
  rw [e]
  have g0 := ba_ne h0
  have g1 := ba_ne h1
  have g2 := ba_ne h2
  have g3 := ba_ne h3
  have g4 := ba_ne h4
  have g5 := ba_ne h5
  refine get_none w op ?_
  simp [Instr.findNow, Instr.sameNow, oppE, g0, g1, g2, g3, g4, g5]

/-- The opposite, of the six. -/
theorem opp_in (op : List UInt8) : inS sixOps (oppL op) = inS sixOps op := by
  unfold oppL
  split
  · rename_i h; rw [h]; decide
  split
  · rename_i h; rw [h]; decide
  split
  · rename_i h; rw [h]; decide
  split
  · rename_i h; rw [h]; decide
  split
  · rename_i h; rw [h]; decide
  split
  · rename_i h; rw [h]; decide
  rename_i h1 h2 h3 h4 h5 h6
  simp [inS, sixOps, Ne.symm h1, Ne.symm h2, Ne.symm h3, Ne.symm h4, Ne.symm h5, Ne.symm h6]
theorem opp_holds (op : List UInt8) (h : inS sixOps op = true) (a b : Bool) : holdsB (oppL op) a b = !holdsB op a b := by
  have : op = [61] ∨ op = [60, 62] ∨ op = [60] ∨ op = [60, 61] ∨ op = [62] ∨ op = [62, 61] := by
    simp [inS, sixOps] at h
    rcases h with h | h | h | h | h | h
    · exact Or.inl h.symm
    · exact Or.inr (Or.inl h.symm)
    · exact Or.inr (Or.inr (Or.inl h.symm))
    · exact Or.inr (Or.inr (Or.inr (Or.inl h.symm)))
    · exact Or.inr (Or.inr (Or.inr (Or.inr (Or.inl h.symm))))
    · exact Or.inr (Or.inr (Or.inr (Or.inr (Or.inr h.symm))))
  rcases this with rfl | rfl | rfl | rfl | rfl | rfl <;> cases a <;> cases b <;> decide
/-- A job, the other way round. -/
def Jb.opp (j : Jb) : Jb := { j with op := ⟨(oppL j.op.data.toList).toArray⟩ }
theorem opp_err (cs : List Cl) (j : Jb) : testErr cs j.opp = testErr cs j := by
  unfold testErr Jb.opp
  simp only [opp_in]
theorem opp_test (cs : List Cl) (j : Jb) (h : testErr cs j = 0) (r : List Vl) : testB cs j.opp r = !testB cs j r := by
  have hin : inS sixOps j.op.data.toList = true := by
    cases g : inS sixOps j.op.data.toList with
    | true => rfl
    | false => unfold testErr at h; rw [if_pos (Or.inl g)] at h; cases h
  unfold testB Jb.opp
  exact opp_holds _ hin _ _
theorem filter_opp (cs : List Cl) (j : Jb) (h : testErr cs j = 0) (rs : List (List Vl)) : rs.filter (testB cs j.opp) = rs.filter (fun r => !testB cs j r) :=
  List.filter_congr (fun r _ => opp_test cs j h r)
theorem filter_both {α : Type} (p : α → Bool) (l : List α) : (l.filter p).length + (l.filter (fun x => !p x)).length = l.length := by
  induction l with
  | nil => rfl
  | cons a r ih =>
    simp only [List.filter_cons]
    cases p a <;> simp <;> omega
end Go.Proofs.YtipdkiafckapjaaGreatDoor
