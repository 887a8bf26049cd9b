/-
  DERIVED. GIVEN WITH THE SEED: THE CARDS: each row of YtdcamcpffiilbaaDoorRows.lean that lists a variable, with what it lists TIED to the program's text (the seventh form; the later family's looks); each row that meets fmt, with fmt's text TOLD by the authors' own Lean function (tested against real Go, not proved from fmt's source: count such statements apart). THE CARD IS WHAT COUNTS. Prove the row's statement (the work); the ties are given (YtdcamcpffiilbaaDoorTie.lean); close each card by the builder's one call (the guide's Derived/Test/ToyasCard.lean, 'card_holds'). Laid BY PROGRAM, IN A SANDBOX (cutbox-door.mjs). By AI agents, Wed Nov 11 2026. No macro, syntax, notation, axiom, sorry.
-/
import Derived.Test.YtdcamcpffiilbaaDoorRows
import GoSem.ClaimSeven
namespace Go.Proofs.YtdcamcpffiilbaaDoor
namespace Rows

/-- THE TIED CARD OF 'paintboxlaw11.PreRuns'. -/
def preRunsCard : Claim7 := { stood := { row := preRunsRow, standIns := [], harness := (true, "5e3a6d6afad1a50e2ab91e19310bcb6d32381d70463368eb5e6104f9ca337ef4"), looks := false }, kinds := [], alts := [], laidByText := true, laidKinds := [.data, .data, .data], laidTests := true, laidLooks := .later }
def PreRunsCardSaid : Prop := Claim7.holds Tryd.pinned (.plain (OpenSpec.ofChange preRunsSpec)) preRunsCard

/-- THE SECOND FORM's CARD OF 'paintboxlaw11.PreRuns'. -/
def preRunsUptoCard : Claim7 := { stood := { row := preRunsUptoRow, standIns := [], harness := (true, "5e3a6d6afad1a50e2ab91e19310bcb6d32381d70463368eb5e6104f9ca337ef4"), looks := false }, kinds := [], alts := [], laidByText := true, laidKinds := [.data, .data, .data], laidTests := true, laidLooks := .later }
def PreRunsUptoCardSaid : Prop := Claim7.holds Tryd.pinned (.plain (OpenSpec.upto preRunsSpec)) preRunsUptoCard
end Rows
end Go.Proofs.YtdcamcpffiilbaaDoor
