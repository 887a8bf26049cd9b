/-
  No cell of these rows narrows 'for every input' (looked for: loops, veiled, ifaces, maps, wideKeys, modest, calm, conditions, laid).
  DERIVED. THE GIVEN ROWS OF THIS SEAT. 3 by the template 'for every input the law returns true; each argument reads behind the call as it read before'; 0 by the template 'total and deterministic' (their statements: YtlggecbbliihiabTotals.lean).
  GIVEN WITH THE SEED: the statements are not yours to turn. If you find one false, say at which input.
  Laid BY PROGRAM, IN A SANDBOX (cutbox-rows.mjs): the forced cells as the released guide's own fill.sh prints them over the translation 9f0612eb7245bbfc… (all of the seat's roots in one cut). By AI agents, Wed Nov 11 2026. No macro, syntax, notation, axiom, sorry.
-/
import Derived.Test.YtlggecbbliihiabChecked
import GoSem.Claim
import GoSem.ClaimJoined
import GoSem.ClaimMapViews
import Derived.JoinedTies
import Derived.KernelRfl
namespace Go.Proofs.Ytlggecbbliihiab
/- THE CELL 'sum', in the pinned program and in every row, IS THE sha256 OF THE DUMP (.gsa) THAT YtlggecbbliihiabProg.lean LOADS. Nothing in Lean hashes anything: it is a label: what it is worth is what the hold of that sum in a sandbox is worth. -/
noncomputable def Try.pinned : Pinned := { name := "ytlggecbbliihiab", sum := "9f0612eb7245bbfcdcc7dacb90e4b3f73d1a342b104d09e616350f52b0c47154", checked := Try.checked }
namespace Rows
def none {H : Type} : Left H := { results := [], args := [] }

/-- 'paintboxlaw04.MathsWhole': WHATEVER THE INPUT: true; the input reads as it did. -/
def mathsWholeSpec : ChangeSpec := { name := "mathsWhole", fn := fun _ => fun
  | [d] => { results := [.lit (.bool true)], args := [d] }
  | _ => none }
def mathsWholeRow : OpenClaim := { program := "ytlggecbbliihiab", sum := "9f0612eb7245bbfcdcc7dacb90e4b3f73d1a342b104d09e616350f52b0c47154", func := "paintbox/paintboxlaw04.MathsWhole", spec := "mathsWhole", unfollowed := true, recurses := true, apart := false }
def MathsWholeSaid : Prop := mathsWholeRow.holds Try.pinned (OpenSpec.ofChange mathsWholeSpec)

/-- ITS FALSE NEIGHBOUR: 'it returns false'. Refute it at one input. -/
def mathsWholeWrong : ChangeSpec := { name := "mathsWhole", fn := fun _ => fun
  | [d] => { results := [.lit (.bool false)], args := [d] }
  | _ => none }
def MathsWholeWrongFalsely : Prop := mathsWholeRow.holds Try.pinned (OpenSpec.ofChange mathsWholeWrong)

/-- 'paintboxlaw04.MathsTurns': WHATEVER THE INPUT: true; the input reads as it did. -/
def mathsTurnsSpec : ChangeSpec := { name := "mathsTurns", fn := fun _ => fun
  | [d] => { results := [.lit (.bool true)], args := [d] }
  | _ => none }
def mathsTurnsRow : OpenClaim := { program := "ytlggecbbliihiab", sum := "9f0612eb7245bbfcdcc7dacb90e4b3f73d1a342b104d09e616350f52b0c47154", func := "paintbox/paintboxlaw04.MathsTurns", spec := "mathsTurns", unfollowed := true, recurses := true, apart := false }
def MathsTurnsSaid : Prop := mathsTurnsRow.holds Try.pinned (OpenSpec.ofChange mathsTurnsSpec)

/-- ITS FALSE NEIGHBOUR: 'it returns false'. Refute it at one input. -/
def mathsTurnsWrong : ChangeSpec := { name := "mathsTurns", fn := fun _ => fun
  | [d] => { results := [.lit (.bool false)], args := [d] }
  | _ => none }
def MathsTurnsWrongFalsely : Prop := mathsTurnsRow.holds Try.pinned (OpenSpec.ofChange mathsTurnsWrong)

/-- 'paintboxlaw04.MathsUnits': WHATEVER THE INPUT: true; the input reads as it did. -/
def mathsUnitsSpec : ChangeSpec := { name := "mathsUnits", fn := fun _ => fun
  | [d1, d2] => { results := [.lit (.bool true)], args := [d1, d2] }
  | _ => none }
def mathsUnitsRow : OpenClaim := { program := "ytlggecbbliihiab", sum := "9f0612eb7245bbfcdcc7dacb90e4b3f73d1a342b104d09e616350f52b0c47154", func := "paintbox/paintboxlaw04.MathsUnits", spec := "mathsUnits", unfollowed := true, recurses := true, apart := false }
def MathsUnitsSaid : Prop := mathsUnitsRow.holds Try.pinned (OpenSpec.ofChange mathsUnitsSpec)

/-- ITS FALSE NEIGHBOUR: 'it returns false'. Refute it at one input. -/
def mathsUnitsWrong : ChangeSpec := { name := "mathsUnits", fn := fun _ => fun
  | [d1, d2] => { results := [.lit (.bool false)], args := [d1, d2] }
  | _ => none }
def MathsUnitsWrongFalsely : Prop := mathsUnitsRow.holds Try.pinned (OpenSpec.ofChange mathsUnitsWrong)

/- THE SECOND FORM. 'bulk': how many values and letters a reading holds, each counted each time it is reached (what is shared counts as often as it is met; a slice's spare places count too). A statement '..UptoSaid' is the law's where the arguments, and the package variables that the reading takes, are together of bulk at most 1048576: NARROWER than '..Said'. Prove '..Said' where nothing that the law and all that it calls make is longer than what came in: it says more and counts as full. Else prove '..UptoSaid'. A law counts once. -/
mutual
def uptoBulk {H : Type} : DataW H → Nat
  | .lit (.string bytes) => bytes.length + 1
  | .lit _ => 1
  | .nil => 1
  | .ptr d => uptoBulk d + 1
  | .slice elems spare => uptoBulkAll elems + uptoBulkAll spare + 1
  | .agg parts => uptoBulkAll parts + 1
  | .iface _ d => uptoBulk d + 1
  | .map entries => uptoBulkEntries entries + 1
  | .held _ => 1
def uptoBulkAll {H : Type} : List (DataW H) → Nat
  | [] => 0
  | d :: r => uptoBulk d + uptoBulkAll r
def uptoBulkEntries {H : Type} : List (Lit × DataW H) → Nat
  | [] => 0
  | x :: r => uptoBulkEntry x + uptoBulkEntries r
def uptoBulkEntry {H : Type} : Lit × DataW H → Nat
  | (.string bytes, d) => bytes.length + uptoBulk d + 1
  | (_, d) => uptoBulk d + 1
 end
def uptoSmall : (H : Type) → List (DataW H) → Bool := fun _ ds => decide (uptoBulkAll ds ≤ 1048576)
def OpenSpec.upto (s : _root_.Go.ChangeSpec) : _root_.Go.OpenSpec := { _root_.Go.OpenSpec.ofChange s with cond := some uptoSmall }

/-- 'paintboxlaw04.MathsWhole', WHERE WHAT IT READS IS OF BULK AT MOST 1048576: true; the input reads as it did. -/
def mathsWholeUptoRow : OpenClaim := { program := "ytlggecbbliihiab", sum := "9f0612eb7245bbfcdcc7dacb90e4b3f73d1a342b104d09e616350f52b0c47154", func := "paintbox/paintboxlaw04.MathsWhole", spec := "mathsWhole", unfollowed := true, recurses := true, apart := false, narrowed := true }
def MathsWholeUptoSaid : Prop := mathsWholeUptoRow.holds Try.pinned (OpenSpec.upto mathsWholeSpec)

/-- 'paintboxlaw04.MathsTurns', WHERE WHAT IT READS IS OF BULK AT MOST 1048576: true; the input reads as it did. -/
def mathsTurnsUptoRow : OpenClaim := { program := "ytlggecbbliihiab", sum := "9f0612eb7245bbfcdcc7dacb90e4b3f73d1a342b104d09e616350f52b0c47154", func := "paintbox/paintboxlaw04.MathsTurns", spec := "mathsTurns", unfollowed := true, recurses := true, apart := false, narrowed := true }
def MathsTurnsUptoSaid : Prop := mathsTurnsUptoRow.holds Try.pinned (OpenSpec.upto mathsTurnsSpec)

/-- 'paintboxlaw04.MathsUnits', WHERE WHAT IT READS IS OF BULK AT MOST 1048576: true; the input reads as it did. -/
def mathsUnitsUptoRow : OpenClaim := { program := "ytlggecbbliihiab", sum := "9f0612eb7245bbfcdcc7dacb90e4b3f73d1a342b104d09e616350f52b0c47154", func := "paintbox/paintboxlaw04.MathsUnits", spec := "mathsUnits", unfollowed := true, recurses := true, apart := false, narrowed := true }
def MathsUnitsUptoSaid : Prop := mathsUnitsUptoRow.holds Try.pinned (OpenSpec.upto mathsUnitsSpec)

end Rows
end Go.Proofs.Ytlggecbbliihiab
