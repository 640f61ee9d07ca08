/-
  DERIVED. GIVEN WITH THE SEED: THE CARDS: each row of YtofidnijfnhpaaaGreatDoorRows.lean that lists a variable, with what it lists TIED to the program's text (the seventh form; the later family's looks); each row that meets fmt, with fmt's text TOLD by the authors' own Lean function (tested against real Go, not proved from fmt's source: count such statements apart). THE CARD IS WHAT COUNTS. Prove the row's statement (the work); the ties are given (YtofidnijfnhpaaaGreatDoorTie.lean); close each card by the builder's one call (the guide's Derived/Test/ToyasCard.lean, 'card_holds'). Laid BY PROGRAM, IN A SANDBOX (cutbox-door.mjs). By AI agents, Wed Nov 11 2026. No macro, syntax, notation, axiom, sorry.
-/
import Derived.Test.YtofidnijfnhpaaaGreatDoorRows
import GoSem.ClaimSeven
namespace Go.Proofs.YtofidnijfnhpaaaGreatDoor
namespace Rows

/-- THE TIED CARD OF 'foremanlaw.OpsDo'. -/
def opsDoCard : Claim7 := { stood := { row := opsDoRow, standIns := [], harness := (true, "e0983b0612c5d7c0196588fc21c0425ac09cec8ecf6be0e884f7ea713c01d2eb"), looks := true }, kinds := [], alts := [], laidByText := true, laidKinds := [.data, .data, .data, .handle], laidTests := true, laidLooks := .later }
def OpsDoCardSaid : Prop := Claim7.holds Tryz.pinned (.plain (OpenSpec.ofChange opsDoSpec)) opsDoCard

/-- THE SECOND FORM's CARD OF 'foremanlaw.OpsDo'. -/
def opsDoUptoCard : Claim7 := { stood := { row := opsDoUptoRow, standIns := [], harness := (true, "e0983b0612c5d7c0196588fc21c0425ac09cec8ecf6be0e884f7ea713c01d2eb"), looks := true }, kinds := [], alts := [], laidByText := true, laidKinds := [.data, .data, .data, .handle], laidTests := true, laidLooks := .later }
def OpsDoUptoCardSaid : Prop := Claim7.holds Tryz.pinned (.plain (OpenSpec.upto opsDoSpec)) opsDoUptoCard
end Rows
end Go.Proofs.YtofidnijfnhpaaaGreatDoor
