/-
  DERIVED. GIVEN WITH THE SEED: THE CARDS: each row of YtccbjhaebajamaaGreatDoorRows.lean that lists a variable, with what it lists TIED to the program's text (the seventh form; the later family's looks); each row that meets fmt, with fmt's text TOLD by the authors' own Lean function (tested against real Go, not proved from fmt's source: count such statements apart). THE CARD IS WHAT COUNTS. Prove the row's statement (the work); the ties are given (YtccbjhaebajamaaGreatDoorTie.lean); close each card by the builder's one call (the guide's Derived/Test/ToyasCard.lean, 'card_holds'). Laid BY PROGRAM, IN A SANDBOX (cutbox-door.mjs). By AI agents, Wed Nov 11 2026. No macro, syntax, notation, axiom, sorry.
-/
import Derived.Test.YtccbjhaebajamaaGreatDoorRows
import GoSem.ClaimSeven
namespace Go.Proofs.YtccbjhaebajamaaGreatDoor
namespace Rows

/-- THE TIED CARD OF 'foremankeep.OpsOnce'. -/
def opsOnceCard : Claim7 := { stood := { row := opsOnceRow, standIns := [], harness := (true, "2f95e13c9d5c1374daf4e2a273966b245d4c6568d347ba727c28d621d2fa755a"), looks := true }, kinds := [], alts := [], laidByText := true, laidKinds := [.data, .data, .data, .data, .sentinel, .sentinel, .data, .pinned], laidTests := true, laidLooks := .later }
def OpsOnceCardSaid : Prop := Claim7.holds Tryz.pinned (.plain (OpenSpec.ofChange opsOnceSpec)) opsOnceCard

/-- THE TIED CARD OF 'foremankeep.OpsTurns'. -/
def opsTurnsCard : Claim7 := { stood := { row := opsTurnsRow, standIns := [], harness := (true, "2f95e13c9d5c1374daf4e2a273966b245d4c6568d347ba727c28d621d2fa755a"), looks := true }, kinds := [], alts := [], laidByText := true, laidKinds := [.data, .data, .data, .data, .sentinel, .sentinel, .data, .pinned], laidTests := true, laidLooks := .later }
def OpsTurnsCardSaid : Prop := Claim7.holds Tryz.pinned (.plain (OpenSpec.ofChange opsTurnsSpec)) opsTurnsCard

/-- THE TIED CARD OF 'foremankeep.OpsSort'. -/
def opsSortCard : Claim7 := { stood := { row := opsSortRow, standIns := [], harness := (true, "2f95e13c9d5c1374daf4e2a273966b245d4c6568d347ba727c28d621d2fa755a"), looks := true }, kinds := [], alts := [], laidByText := true, laidKinds := [.data, .data, .data, .data, .sentinel, .sentinel, .data, .pinned], laidTests := true, laidLooks := .later }
def OpsSortCardSaid : Prop := Claim7.holds Tryz.pinned (.plain (OpenSpec.ofChange opsSortSpec)) opsSortCard

/-- THE TIED CARD OF 'foremankeep.OpsJoin'. -/
def opsJoinCard : Claim7 := { stood := { row := opsJoinRow, standIns := [], harness := (true, "2f95e13c9d5c1374daf4e2a273966b245d4c6568d347ba727c28d621d2fa755a"), looks := true }, kinds := [], alts := [], laidByText := true, laidKinds := [.data, .data, .data, .data, .sentinel, .sentinel, .data, .pinned], laidTests := true, laidLooks := .later }
def OpsJoinCardSaid : Prop := Claim7.holds Tryz.pinned (.plain (OpenSpec.ofChange opsJoinSpec)) opsJoinCard

/-- THE SECOND FORM's CARD OF 'foremankeep.OpsOnce'. -/
def opsOnceUptoCard : Claim7 := { stood := { row := opsOnceUptoRow, standIns := [], harness := (true, "2f95e13c9d5c1374daf4e2a273966b245d4c6568d347ba727c28d621d2fa755a"), looks := true }, kinds := [], alts := [], laidByText := true, laidKinds := [.data, .data, .data, .data, .sentinel, .sentinel, .data, .pinned], laidTests := true, laidLooks := .later }
def OpsOnceUptoCardSaid : Prop := Claim7.holds Tryz.pinned (.plain (OpenSpec.upto opsOnceSpec)) opsOnceUptoCard

/-- THE SECOND FORM's CARD OF 'foremankeep.OpsTurns'. -/
def opsTurnsUptoCard : Claim7 := { stood := { row := opsTurnsUptoRow, standIns := [], harness := (true, "2f95e13c9d5c1374daf4e2a273966b245d4c6568d347ba727c28d621d2fa755a"), looks := true }, kinds := [], alts := [], laidByText := true, laidKinds := [.data, .data, .data, .data, .sentinel, .sentinel, .data, .pinned], laidTests := true, laidLooks := .later }
def OpsTurnsUptoCardSaid : Prop := Claim7.holds Tryz.pinned (.plain (OpenSpec.upto opsTurnsSpec)) opsTurnsUptoCard

/-- THE SECOND FORM's CARD OF 'foremankeep.OpsSort'. -/
def opsSortUptoCard : Claim7 := { stood := { row := opsSortUptoRow, standIns := [], harness := (true, "2f95e13c9d5c1374daf4e2a273966b245d4c6568d347ba727c28d621d2fa755a"), looks := true }, kinds := [], alts := [], laidByText := true, laidKinds := [.data, .data, .data, .data, .sentinel, .sentinel, .data, .pinned], laidTests := true, laidLooks := .later }
def OpsSortUptoCardSaid : Prop := Claim7.holds Tryz.pinned (.plain (OpenSpec.upto opsSortSpec)) opsSortUptoCard

/-- THE SECOND FORM's CARD OF 'foremankeep.OpsJoin'. -/
def opsJoinUptoCard : Claim7 := { stood := { row := opsJoinUptoRow, standIns := [], harness := (true, "2f95e13c9d5c1374daf4e2a273966b245d4c6568d347ba727c28d621d2fa755a"), looks := true }, kinds := [], alts := [], laidByText := true, laidKinds := [.data, .data, .data, .data, .sentinel, .sentinel, .data, .pinned], laidTests := true, laidLooks := .later }
def OpsJoinUptoCardSaid : Prop := Claim7.holds Tryz.pinned (.plain (OpenSpec.upto opsJoinSpec)) opsJoinUptoCard
end Rows
end Go.Proofs.YtccbjhaebajamaaGreatDoor
