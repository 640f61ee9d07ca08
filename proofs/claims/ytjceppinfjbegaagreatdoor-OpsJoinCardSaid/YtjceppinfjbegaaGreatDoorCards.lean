/-
  DERIVED. GIVEN WITH THE SEED: THE CARDS: each row of YtjceppinfjbegaaGreatDoorRows.lean that lists a variable, with what it lists TIED to the program's text (the seventh form; the later family's looks); each row that meets fmt, with fmt's text TOLD by the authors' own Lean function (tested against real Go, not proved from fmt's source: count such statements apart). THE CARD IS WHAT COUNTS. Prove the row's statement (the work); the ties are given (YtjceppinfjbegaaGreatDoorTie.lean); close each card by the builder's one call (the guide's Derived/Test/ToyasCard.lean, 'card_holds'). Laid BY PROGRAM, IN A SANDBOX (cutbox-door.mjs). By AI agents, Wed Nov 11 2026. No macro, syntax, notation, axiom, sorry.
-/
import Derived.Test.YtjceppinfjbegaaGreatDoorRows
import GoSem.ClaimSeven
namespace Go.Proofs.YtjceppinfjbegaaGreatDoor
namespace Rows

/-- THE TIED CARD OF 'foremanlaw.OpsDo'. -/
def opsDoCard : Claim7 := { stood := { row := opsDoRow, standIns := [], harness := (true, "2b973db9b499e41acc1b03aa7df5ef76aa00c512188b2ef7685d4680f5962f11"), looks := true }, kinds := [], alts := [], laidByText := true, laidKinds := [.data, .data, .data, .handle], laidTests := true, laidLooks := .later }
def OpsDoCardSaid : Prop := Claim7.holds Tryz.pinned (.plain (OpenSpec.ofChange opsDoSpec)) opsDoCard

/-- THE TIED CARD OF 'foremankeep.OpsJoin'. -/
def opsJoinCard : Claim7 := { stood := { row := opsJoinRow, standIns := [], harness := (true, "2b973db9b499e41acc1b03aa7df5ef76aa00c512188b2ef7685d4680f5962f11"), looks := true }, kinds := [], alts := [], laidByText := true, laidKinds := [.data, .data, .data, .data, .sentinel, .sentinel, .data, .pinned], laidTests := true, laidLooks := .later }
def OpsJoinCardSaid : Prop := Claim7.holds Tryz.pinned (.plain (OpenSpec.ofChange opsJoinSpec)) opsJoinCard

/-- THE SECOND FORM's CARD OF 'foremanlaw.OpsDo'. -/
def opsDoUptoCard : Claim7 := { stood := { row := opsDoUptoRow, standIns := [], harness := (true, "2b973db9b499e41acc1b03aa7df5ef76aa00c512188b2ef7685d4680f5962f11"), looks := true }, kinds := [], alts := [], laidByText := true, laidKinds := [.data, .data, .data, .handle], laidTests := true, laidLooks := .later }
def OpsDoUptoCardSaid : Prop := Claim7.holds Tryz.pinned (.plain (OpenSpec.upto opsDoSpec)) opsDoUptoCard

/-- THE SECOND FORM's CARD OF 'foremankeep.OpsJoin'. -/
def opsJoinUptoCard : Claim7 := { stood := { row := opsJoinUptoRow, standIns := [], harness := (true, "2b973db9b499e41acc1b03aa7df5ef76aa00c512188b2ef7685d4680f5962f11"), looks := true }, kinds := [], alts := [], laidByText := true, laidKinds := [.data, .data, .data, .data, .sentinel, .sentinel, .data, .pinned], laidTests := true, laidLooks := .later }
def OpsJoinUptoCardSaid : Prop := Claim7.holds Tryz.pinned (.plain (OpenSpec.upto opsJoinSpec)) opsJoinUptoCard
end Rows
end Go.Proofs.YtjceppinfjbegaaGreatDoor
