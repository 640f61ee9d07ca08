import Derived.Test.YtedflhiflomoeaaGreatDoorWalkB
import Derived.Laws.EntriesVeiled
set_option linter.unusedSimpArgs false
set_option linter.unusedVariables false
namespace Go.Proofs.YtedflhiflomoeaaGreatDoor
open Go.RowKit

def nameB (l : List UInt8) : Bool := match l with
  | [] => false
  | c :: _ => decide (l.length ≤ 10) && (lowI (c.toNat : Int) && allI lowdigI l)

theorem nameB_of (s : ByteArray) (h0 : 0 < s.size) : nameB s.data.toList = (decide (s.size ≤ 10) && (lowI (s[0].toNat : Int) && allI lowdigI s.data.toList)) := by
  obtain ⟨⟨l⟩⟩ := s
  match l, h0 with
  | c :: r, _ => rfl
  | [], h => exact absurd h (by simp [ByteArray.size])

end Go.Proofs.YtedflhiflomoeaaGreatDoor
