/-
  DERIVED. GIVEN WITH THE SEED: THE CARDS: each row of YtgcliklpbahfaaaDoorRows.lean that lists a variable, with what it lists TIED to the program's text (the seventh form; the later family's looks); each row that meets fmt, with fmt's text TOLD by the authors' own Lean function (tested against real Go, not proved from fmt's source: count such statements apart). THE CARD IS WHAT COUNTS. Prove the row's statement (the work); the ties are given (YtgcliklpbahfaaaDoorTie.lean); close each card by the builder's one call (the guide's Derived/Test/ToyasCard.lean, 'card_holds'). Laid BY PROGRAM, IN A SANDBOX (cutbox-door.mjs). By AI agents, Wed Nov 11 2026. No macro, syntax, notation, axiom, sorry.
-/
import Derived.Test.YtgcliklpbahfaaaDoorRows
import GoSem.ClaimSeven
namespace Go.Proofs.YtgcliklpbahfaaaDoor
namespace Rows

/-- THE TIED CARD OF 'paintboxlaw11.PreRuns'. -/
def preRunsCard : Claim7 := { stood := { row := preRunsRow, standIns := [], harness := (true, "5524281662b743839c7082884b954f8201ef6786923c96ff1312f3c115fe3d92"), looks := false }, kinds := [], alts := [], laidByText := true, laidKinds := [.data, .data, .data], laidTests := true, laidLooks := .later }
def PreRunsCardSaid : Prop := Claim7.holds Tryd.pinned (.plain (OpenSpec.ofChange preRunsSpec)) preRunsCard

/-- THE TIED CARD OF 'paintboxlaw11.PreFresh'. -/
def preFreshCard : Claim7 := { stood := { row := preFreshRow, standIns := [], harness := (true, "5524281662b743839c7082884b954f8201ef6786923c96ff1312f3c115fe3d92"), looks := false }, kinds := [], alts := [], laidByText := true, laidKinds := [.data, .data, .data], laidTests := true, laidLooks := .later }
def PreFreshCardSaid : Prop := Claim7.holds Tryd.pinned (.plain (OpenSpec.ofChange preFreshSpec)) preFreshCard

/-- THE SECOND FORM's CARD OF 'paintboxlaw11.PreRuns'. -/
def preRunsUptoCard : Claim7 := { stood := { row := preRunsUptoRow, standIns := [], harness := (true, "5524281662b743839c7082884b954f8201ef6786923c96ff1312f3c115fe3d92"), looks := false }, kinds := [], alts := [], laidByText := true, laidKinds := [.data, .data, .data], laidTests := true, laidLooks := .later }
def PreRunsUptoCardSaid : Prop := Claim7.holds Tryd.pinned (.plain (OpenSpec.upto preRunsSpec)) preRunsUptoCard

/-- THE SECOND FORM's CARD OF 'paintboxlaw11.PreFresh'. -/
def preFreshUptoCard : Claim7 := { stood := { row := preFreshUptoRow, standIns := [], harness := (true, "5524281662b743839c7082884b954f8201ef6786923c96ff1312f3c115fe3d92"), looks := false }, kinds := [], alts := [], laidByText := true, laidKinds := [.data, .data, .data], laidTests := true, laidLooks := .later }
def PreFreshUptoCardSaid : Prop := Claim7.holds Tryd.pinned (.plain (OpenSpec.upto preFreshSpec)) preFreshUptoCard
end Rows
end Go.Proofs.YtgcliklpbahfaaaDoor
