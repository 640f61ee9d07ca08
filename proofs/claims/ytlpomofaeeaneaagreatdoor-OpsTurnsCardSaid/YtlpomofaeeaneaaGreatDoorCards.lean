/-
  DERIVED. GIVEN WITH THE SEED: THE CARDS: each row of YtlpomofaeeaneaaGreatDoorRows.lean that lists a variable, with what it lists TIED to the program's text (the seventh form; the later family's looks); each row that meets fmt, with fmt's text TOLD by the authors' own Lean function (tested against real Go, not proved from fmt's source: count such statements apart). THE CARD IS WHAT COUNTS. Prove the row's statement (the work); the ties are given (YtlpomofaeeaneaaGreatDoorTie.lean); close each card by the builder's one call (the guide's Derived/Test/ToyasCard.lean, 'card_holds'). Laid BY PROGRAM, IN A SANDBOX (cutbox-door.mjs). By AI agents, Wed Nov 11 2026. No macro, syntax, notation, axiom, sorry.
-/
import Derived.Test.YtlpomofaeeaneaaGreatDoorRows
import GoSem.ClaimSeven
namespace Go.Proofs.YtlpomofaeeaneaaGreatDoor
namespace Rows

/-- THE TIED CARD OF 'foremankeep.OpsOnce'. -/
def opsOnceCard : Claim7 := { stood := { row := opsOnceRow, standIns := [], harness := (true, "a4c66bc82415777e65cb45db95cd6a1768e065fb5f3d77fbf60671f48c606dbf"), looks := true }, kinds := [], alts := [], laidByText := true, laidKinds := [.data, .data, .data, .data, .sentinel, .sentinel, .data, .pinned], laidTests := true, laidLooks := .later }
def OpsOnceCardSaid : Prop := Claim7.holds Tryz.pinned (.plain (OpenSpec.ofChange opsOnceSpec)) opsOnceCard

/-- THE TIED CARD OF 'foremankeep.OpsTurns'. -/
def opsTurnsCard : Claim7 := { stood := { row := opsTurnsRow, standIns := [], harness := (true, "a4c66bc82415777e65cb45db95cd6a1768e065fb5f3d77fbf60671f48c606dbf"), looks := true }, kinds := [], alts := [], laidByText := true, laidKinds := [.data, .data, .data, .data, .sentinel, .sentinel, .data, .pinned], laidTests := true, laidLooks := .later }
def OpsTurnsCardSaid : Prop := Claim7.holds Tryz.pinned (.plain (OpenSpec.ofChange opsTurnsSpec)) opsTurnsCard

/-- THE TIED CARD OF 'foremankeep.OpsSets'. -/
def opsSetsCard : Claim7 := { stood := { row := opsSetsRow, standIns := [], harness := (true, "a4c66bc82415777e65cb45db95cd6a1768e065fb5f3d77fbf60671f48c606dbf"), looks := true }, kinds := [], alts := [], laidByText := true, laidKinds := [.data, .data, .data, .data, .sentinel, .sentinel, .data, .pinned], laidTests := true, laidLooks := .later }
def OpsSetsCardSaid : Prop := Claim7.holds Tryz.pinned (.plain (OpenSpec.ofChange opsSetsSpec)) opsSetsCard

/-- THE SECOND FORM's CARD OF 'foremankeep.OpsOnce'. -/
def opsOnceUptoCard : Claim7 := { stood := { row := opsOnceUptoRow, standIns := [], harness := (true, "a4c66bc82415777e65cb45db95cd6a1768e065fb5f3d77fbf60671f48c606dbf"), looks := true }, kinds := [], alts := [], laidByText := true, laidKinds := [.data, .data, .data, .data, .sentinel, .sentinel, .data, .pinned], laidTests := true, laidLooks := .later }
def OpsOnceUptoCardSaid : Prop := Claim7.holds Tryz.pinned (.plain (OpenSpec.upto opsOnceSpec)) opsOnceUptoCard

/-- THE SECOND FORM's CARD OF 'foremankeep.OpsTurns'. -/
def opsTurnsUptoCard : Claim7 := { stood := { row := opsTurnsUptoRow, standIns := [], harness := (true, "a4c66bc82415777e65cb45db95cd6a1768e065fb5f3d77fbf60671f48c606dbf"), looks := true }, kinds := [], alts := [], laidByText := true, laidKinds := [.data, .data, .data, .data, .sentinel, .sentinel, .data, .pinned], laidTests := true, laidLooks := .later }
def OpsTurnsUptoCardSaid : Prop := Claim7.holds Tryz.pinned (.plain (OpenSpec.upto opsTurnsSpec)) opsTurnsUptoCard

/-- THE SECOND FORM's CARD OF 'foremankeep.OpsSets'. -/
def opsSetsUptoCard : Claim7 := { stood := { row := opsSetsUptoRow, standIns := [], harness := (true, "a4c66bc82415777e65cb45db95cd6a1768e065fb5f3d77fbf60671f48c606dbf"), looks := true }, kinds := [], alts := [], laidByText := true, laidKinds := [.data, .data, .data, .data, .sentinel, .sentinel, .data, .pinned], laidTests := true, laidLooks := .later }
def OpsSetsUptoCardSaid : Prop := Claim7.holds Tryz.pinned (.plain (OpenSpec.upto opsSetsSpec)) opsSetsUptoCard
end Rows
end Go.Proofs.YtlpomofaeeaneaaGreatDoor
