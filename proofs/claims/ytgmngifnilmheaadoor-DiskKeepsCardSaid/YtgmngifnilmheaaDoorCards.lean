/-
  DERIVED. GIVEN WITH THE SEED: THE CARDS: each row of YtgmngifnilmheaaDoorRows.lean that lists a variable, with what it lists TIED to the program's text (the seventh form; the later family's looks); each row that meets fmt, with fmt's text TOLD by the authors' own Lean function (tested against real Go, not proved from fmt's source: count such statements apart). THE CARD IS WHAT COUNTS. Prove the row's statement (the work); the ties are given (YtgmngifnilmheaaDoorTie.lean); close each card by the builder's one call (the guide's Derived/Test/ToyasCard.lean, 'card_holds'). Laid BY PROGRAM, IN A SANDBOX (cutbox-door.mjs). By AI agents, Wed Nov 11 2026. No macro, syntax, notation, axiom, sorry.
-/
import Derived.Test.YtgmngifnilmheaaDoorRows
import GoSem.ClaimSeven
namespace Go.Proofs.YtgmngifnilmheaaDoor
namespace Rows

/-- THE TIED CARD OF 'foremanlaw.DiskKeeps'. -/
def diskKeepsCard : Claim7 := { stood := { row := diskKeepsRow, standIns := [], harness := (true, "709ab487640532c00b8efc381f20c91cf4b302992b78c0f8c08033aa23780af8"), looks := true }, kinds := [], alts := [], laidByText := true, laidKinds := [.handle], laidTests := true, laidLooks := .later }
def DiskKeepsCardSaid : Prop := Claim7.holds Tryd.pinned (.plain (OpenSpec.ofChange diskKeepsSpec)) diskKeepsCard

/-- THE TIED CARD OF 'foremankeep.DiskSure'. -/
def diskSureCard : Claim7 := { stood := { row := diskSureRow, standIns := [], harness := (true, "709ab487640532c00b8efc381f20c91cf4b302992b78c0f8c08033aa23780af8"), looks := true }, kinds := [], alts := [], laidByText := true, laidKinds := [.data, .pinned], laidTests := true, laidLooks := .later }
def DiskSureCardSaid : Prop := Claim7.holds Tryd.pinned (.plain (OpenSpec.ofChange diskSureSpec)) diskSureCard

/-- THE TIED CARD OF 'foremankeep.DiskRests'. -/
def diskRestsCard : Claim7 := { stood := { row := diskRestsRow, standIns := [], harness := (true, "709ab487640532c00b8efc381f20c91cf4b302992b78c0f8c08033aa23780af8"), looks := true }, kinds := [], alts := [], laidByText := true, laidKinds := [.handle], laidTests := true, laidLooks := .later }
def DiskRestsCardSaid : Prop := Claim7.holds Tryd.pinned (.plain (OpenSpec.ofChange diskRestsSpec)) diskRestsCard

/-- THE SECOND FORM's CARD OF 'foremanlaw.DiskKeeps'. -/
def diskKeepsUptoCard : Claim7 := { stood := { row := diskKeepsUptoRow, standIns := [], harness := (true, "709ab487640532c00b8efc381f20c91cf4b302992b78c0f8c08033aa23780af8"), looks := true }, kinds := [], alts := [], laidByText := true, laidKinds := [.handle], laidTests := true, laidLooks := .later }
def DiskKeepsUptoCardSaid : Prop := Claim7.holds Tryd.pinned (.plain (OpenSpec.upto diskKeepsSpec)) diskKeepsUptoCard

/-- THE SECOND FORM's CARD OF 'foremankeep.DiskSure'. -/
def diskSureUptoCard : Claim7 := { stood := { row := diskSureUptoRow, standIns := [], harness := (true, "709ab487640532c00b8efc381f20c91cf4b302992b78c0f8c08033aa23780af8"), looks := true }, kinds := [], alts := [], laidByText := true, laidKinds := [.data, .pinned], laidTests := true, laidLooks := .later }
def DiskSureUptoCardSaid : Prop := Claim7.holds Tryd.pinned (.plain (OpenSpec.upto diskSureSpec)) diskSureUptoCard

/-- THE SECOND FORM's CARD OF 'foremankeep.DiskRests'. -/
def diskRestsUptoCard : Claim7 := { stood := { row := diskRestsUptoRow, standIns := [], harness := (true, "709ab487640532c00b8efc381f20c91cf4b302992b78c0f8c08033aa23780af8"), looks := true }, kinds := [], alts := [], laidByText := true, laidKinds := [.handle], laidTests := true, laidLooks := .later }
def DiskRestsUptoCardSaid : Prop := Claim7.holds Tryd.pinned (.plain (OpenSpec.upto diskRestsSpec)) diskRestsUptoCard
end Rows
end Go.Proofs.YtgmngifnilmheaaDoor
