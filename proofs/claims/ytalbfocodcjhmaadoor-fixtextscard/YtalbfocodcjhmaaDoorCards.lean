/-
  DERIVED. GIVEN WITH THE SEED: THE CARDS: each row of YtalbfocodcjhmaaDoorRows.lean that lists a variable, with what it lists TIED to the program's text (the seventh form; the later family's looks); each row that meets fmt, with fmt's text TOLD by the authors' own Lean function (tested against real Go, not proved from fmt's source: count such statements apart). THE CARD IS WHAT COUNTS. Prove the row's statement (the work); the ties are given (YtalbfocodcjhmaaDoorTie.lean); close each card by the builder's one call (the guide's Derived/Test/ToyasCard.lean, 'card_holds'). Laid BY PROGRAM, IN A SANDBOX (cutbox-door.mjs). By AI agents, Wed Nov 11 2026. No macro, syntax, notation, axiom, sorry.
-/
import Derived.Test.YtalbfocodcjhmaaDoorRows
import GoSem.ClaimSeven
namespace Go.Proofs.YtalbfocodcjhmaaDoor
namespace Rows

/-- THE TIED CARD OF 'paintboxlaw02.FixTurns'. -/
def fixTurnsCard : Claim7 := { stood := { row := fixTurnsRow, standIns := [], harness := (true, "b893a59caaa43ba5151080b92578cc0b478e69aa4ceb0f052e179e8ef4d7bf23"), looks := false }, kinds := [], alts := [], laidByText := true, laidKinds := [.data, .data, .data, .data, .pinned], laidTests := true, laidLooks := .later }
def FixTurnsCardSaid : Prop := Claim7.holds Tryd.pinned (.plain (OpenSpec.ofChange fixTurnsSpec)) fixTurnsCard

/-- THE TIED CARD OF 'paintboxlaw02.FixAdds'. -/
def fixAddsCard : Claim7 := { stood := { row := fixAddsRow, standIns := [], harness := (true, "b893a59caaa43ba5151080b92578cc0b478e69aa4ceb0f052e179e8ef4d7bf23"), looks := false }, kinds := [], alts := [], laidByText := true, laidKinds := [.data, .data, .data, .data, .pinned], laidTests := true, laidLooks := .later }
def FixAddsCardSaid : Prop := Claim7.holds Tryd.pinned (.plain (OpenSpec.ofChange fixAddsSpec)) fixAddsCard

/-- THE TIED CARD OF 'paintboxlaw02.FixMuls'. -/
def fixMulsCard : Claim7 := { stood := { row := fixMulsRow, standIns := [], harness := (true, "b893a59caaa43ba5151080b92578cc0b478e69aa4ceb0f052e179e8ef4d7bf23"), looks := false }, kinds := [], alts := [], laidByText := true, laidKinds := [.data, .data, .data, .data, .pinned], laidTests := true, laidLooks := .later }
def FixMulsCardSaid : Prop := Claim7.holds Tryd.pinned (.plain (OpenSpec.ofChange fixMulsSpec)) fixMulsCard

/-- THE TIED CARD OF 'paintboxlaw02.FixCuts'. -/
def fixCutsCard : Claim7 := { stood := { row := fixCutsRow, standIns := [], harness := (true, "b893a59caaa43ba5151080b92578cc0b478e69aa4ceb0f052e179e8ef4d7bf23"), looks := false }, kinds := [], alts := [], laidByText := true, laidKinds := [.data, .data, .data, .data, .pinned], laidTests := true, laidLooks := .later }
def FixCutsCardSaid : Prop := Claim7.holds Tryd.pinned (.plain (OpenSpec.ofChange fixCutsSpec)) fixCutsCard

/-- THE TIED CARD OF 'paintboxlaw02.FixTexts'. -/
def fixTextsCard : Claim7 := { stood := { row := fixTextsRow, standIns := [], harness := (true, "b893a59caaa43ba5151080b92578cc0b478e69aa4ceb0f052e179e8ef4d7bf23"), looks := false }, kinds := [], alts := [], laidByText := true, laidKinds := [.data, .data, .data, .data, .pinned], laidTests := true, laidLooks := .later }
def FixTextsCardSaid : Prop := Claim7.holds Tryd.pinned (.plain (OpenSpec.ofChange fixTextsSpec)) fixTextsCard

/-- THE TIED CARD OF 'paintboxlaw02.FixBack'. -/
def fixBackCard : Claim7 := { stood := { row := fixBackRow, standIns := [], harness := (true, "b893a59caaa43ba5151080b92578cc0b478e69aa4ceb0f052e179e8ef4d7bf23"), looks := false }, kinds := [], alts := [], laidByText := true, laidKinds := [.data, .data, .data, .data, .pinned], laidTests := true, laidLooks := .later }
def FixBackCardSaid : Prop := Claim7.holds Tryd.pinned (.plain (OpenSpec.ofChange fixBackSpec)) fixBackCard

/-- THE SECOND FORM's CARD OF 'paintboxlaw02.FixTurns'. -/
def fixTurnsUptoCard : Claim7 := { stood := { row := fixTurnsUptoRow, standIns := [], harness := (true, "b893a59caaa43ba5151080b92578cc0b478e69aa4ceb0f052e179e8ef4d7bf23"), looks := false }, kinds := [], alts := [], laidByText := true, laidKinds := [.data, .data, .data, .data, .pinned], laidTests := true, laidLooks := .later }
def FixTurnsUptoCardSaid : Prop := Claim7.holds Tryd.pinned (.plain (OpenSpec.upto fixTurnsSpec)) fixTurnsUptoCard

/-- THE SECOND FORM's CARD OF 'paintboxlaw02.FixAdds'. -/
def fixAddsUptoCard : Claim7 := { stood := { row := fixAddsUptoRow, standIns := [], harness := (true, "b893a59caaa43ba5151080b92578cc0b478e69aa4ceb0f052e179e8ef4d7bf23"), looks := false }, kinds := [], alts := [], laidByText := true, laidKinds := [.data, .data, .data, .data, .pinned], laidTests := true, laidLooks := .later }
def FixAddsUptoCardSaid : Prop := Claim7.holds Tryd.pinned (.plain (OpenSpec.upto fixAddsSpec)) fixAddsUptoCard

/-- THE SECOND FORM's CARD OF 'paintboxlaw02.FixMuls'. -/
def fixMulsUptoCard : Claim7 := { stood := { row := fixMulsUptoRow, standIns := [], harness := (true, "b893a59caaa43ba5151080b92578cc0b478e69aa4ceb0f052e179e8ef4d7bf23"), looks := false }, kinds := [], alts := [], laidByText := true, laidKinds := [.data, .data, .data, .data, .pinned], laidTests := true, laidLooks := .later }
def FixMulsUptoCardSaid : Prop := Claim7.holds Tryd.pinned (.plain (OpenSpec.upto fixMulsSpec)) fixMulsUptoCard

/-- THE SECOND FORM's CARD OF 'paintboxlaw02.FixCuts'. -/
def fixCutsUptoCard : Claim7 := { stood := { row := fixCutsUptoRow, standIns := [], harness := (true, "b893a59caaa43ba5151080b92578cc0b478e69aa4ceb0f052e179e8ef4d7bf23"), looks := false }, kinds := [], alts := [], laidByText := true, laidKinds := [.data, .data, .data, .data, .pinned], laidTests := true, laidLooks := .later }
def FixCutsUptoCardSaid : Prop := Claim7.holds Tryd.pinned (.plain (OpenSpec.upto fixCutsSpec)) fixCutsUptoCard

/-- THE SECOND FORM's CARD OF 'paintboxlaw02.FixTexts'. -/
def fixTextsUptoCard : Claim7 := { stood := { row := fixTextsUptoRow, standIns := [], harness := (true, "b893a59caaa43ba5151080b92578cc0b478e69aa4ceb0f052e179e8ef4d7bf23"), looks := false }, kinds := [], alts := [], laidByText := true, laidKinds := [.data, .data, .data, .data, .pinned], laidTests := true, laidLooks := .later }
def FixTextsUptoCardSaid : Prop := Claim7.holds Tryd.pinned (.plain (OpenSpec.upto fixTextsSpec)) fixTextsUptoCard

/-- THE SECOND FORM's CARD OF 'paintboxlaw02.FixBack'. -/
def fixBackUptoCard : Claim7 := { stood := { row := fixBackUptoRow, standIns := [], harness := (true, "b893a59caaa43ba5151080b92578cc0b478e69aa4ceb0f052e179e8ef4d7bf23"), looks := false }, kinds := [], alts := [], laidByText := true, laidKinds := [.data, .data, .data, .data, .pinned], laidTests := true, laidLooks := .later }
def FixBackUptoCardSaid : Prop := Claim7.holds Tryd.pinned (.plain (OpenSpec.upto fixBackSpec)) fixBackUptoCard
end Rows
end Go.Proofs.YtalbfocodcjhmaaDoor
