import Derived.Test.YtedflhiflomoeaaGreatDoorWalkD
import Derived.Test.YtedflhiflomoeaaGreatDoorShelf
import Derived.Lib.QuietBelow
set_option linter.unusedSimpArgs false
set_option linter.unusedVariables false
namespace Go.Proofs.YtedflhiflomoeaaGreatDoor
open Go.RowKit

theorem bcell {W w1 : World} (hb : Below W.heap.size W w1) : (∀ b o, b < W.heap.size → w1.cell? ⟨b, o, none⟩ = W.cell? ⟨b, o, none⟩) ∧ (∀ b o, b < W.heap.size → w1.frozen? ⟨b, o, none⟩ = W.frozen? ⟨b, o, none⟩) :=
  ⟨fun b o h => hb.cell (p := ⟨b, o, none⟩) h, fun b o h => hb.frozen (p := ⟨b, o, none⟩) h⟩

theorem toBelow {P : Program} {f : FuncId} {args : Array Value} {w : World} {v : Value} (h : Calls P f args w fun e w' => e = .returned v ∧ w' = w) : Calls P f args w fun e w' => e = .returned v ∧ Below w.heap.size w w' :=
  h.mono fun _ _ x => ⟨x.1, by rw [x.2]; exact Below.refl _ _⟩

def kindB (n : Int) : Bool := n == 1 || n == 2
def colsOK (seen : List (ByteArray × Int)) : List (ByteArray × Int) → Bool
  | [] => true
  | c :: r => nameB c.1.data.toList && (kindB c.2 && (!calledB seen c.1.data.toList && colsOK (seen ++ [c]) r))
def rightColsB (cs : List (ByteArray × Int)) : Bool := decide (1 ≤ cs.length) && (decide (cs.length ≤ 6) && colsOK [] cs)

theorem colsOK_step (cs : List (ByteArray × Int)) (k : Nat) (h : k < cs.length) : colsOK (cs.take k) (cs.drop k) = (nameB cs[k].1.data.toList && (kindB cs[k].2 && (!calledB (cs.take k) cs[k].1.data.toList && colsOK (cs.take (k + 1)) (cs.drop (k + 1))))) := by
  rw [List.drop_eq_getElem_cons h, List.take_succ_eq_append_getElem h]; rfl

theorem ColsAt.take {w : World} {b o : Nat} {cs : List (ByteArray × Int)} (h : ColsAt w b o cs) (k : Nat) : ColsAt w b o (cs.take k) := fun j hj => by
  have hj' : j < cs.length := by rw [List.length_take] at hj; omega
  have := h j hj'
  rw [List.getElem_take]; exact this

end Go.Proofs.YtedflhiflomoeaaGreatDoor
