/-
  DERIVED. GIVEN WITH THE SEED: THE CARDS: each row of YtedflhiflomoeaaGreatDoorRows.lean that lists a variable, with what it lists TIED to the program's text (the seventh form; the later family's looks); each row that meets fmt, with fmt's text TOLD by the authors' own Lean function (tested against real Go, not proved from fmt's source: count such statements apart). THE CARD IS WHAT COUNTS. Prove the row's statement (the work); the ties are given (YtedflhiflomoeaaGreatDoorTie.lean); close each card by the builder's one call (the guide's Derived/Test/ToyasCard.lean, 'card_holds'). Laid BY PROGRAM, IN A SANDBOX (cutbox-door.mjs). By AI agents, Wed Nov 11 2026. No macro, syntax, notation, axiom, sorry.
-/
import Derived.Test.YtedflhiflomoeaaGreatDoorRows
import GoSem.ClaimSeven
namespace Go.Proofs.YtedflhiflomoeaaGreatDoor
namespace Rows

/-- THE TIED CARD OF 'foremanlaw.FlowLimits'. -/
def flowLimitsCard : Claim7 := { stood := { row := flowLimitsRow, standIns := [], harness := (true, "628e6c1589171ba9016220b618acb583f7d093ecba17f0fbf2f81840c70fb808"), looks := true }, kinds := [], alts := [], laidByText := true, laidKinds := [.data, .data, .data, .data, .handle, .sentinel, .sentinel, .data, .data, .data, .data, .pinned], laidTests := true, laidLooks := .later }
def FlowLimitsCardSaid : Prop := Claim7.holds Tryz.pinned (.plain (OpenSpec.ofChange flowLimitsSpec)) flowLimitsCard

/-- THE SECOND FORM's CARD OF 'foremanlaw.FlowLimits'. -/
def flowLimitsUptoCard : Claim7 := { stood := { row := flowLimitsUptoRow, standIns := [], harness := (true, "628e6c1589171ba9016220b618acb583f7d093ecba17f0fbf2f81840c70fb808"), looks := true }, kinds := [], alts := [], laidByText := true, laidKinds := [.data, .data, .data, .data, .handle, .sentinel, .sentinel, .data, .data, .data, .data, .pinned], laidTests := true, laidLooks := .later }
def FlowLimitsUptoCardSaid : Prop := Claim7.holds Tryz.pinned (.plain (OpenSpec.upto flowLimitsSpec)) flowLimitsUptoCard
end Rows
end Go.Proofs.YtedflhiflomoeaaGreatDoor
