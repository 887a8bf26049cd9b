/-
  No cell of these rows narrows 'for every input' (looked for: loops, veiled, ifaces, maps, wideKeys, modest, calm, conditions, laid).
  DERIVED. THE GIVEN ROWS OF THIS SEAT. 2 by the template 'for every input the law returns true; each argument reads behind the call as it read before'; 0 by the template 'total and deterministic' (their statements: YtadajaoidhbmgaaTotals.lean).
  GIVEN WITH THE SEED: the statements are not yours to turn. If you find one false, say at which input.
  Laid BY PROGRAM, IN A SANDBOX (cutbox-rows.mjs): the forced cells as the released guide's own fill.sh prints them over the translation 9a6316907e65b562… (all of the seat's roots in one cut). By AI agents, Wed Nov 11 2026. No macro, syntax, notation, axiom, sorry.
-/
import Derived.Test.YtadajaoidhbmgaaChecked
import GoSem.Claim
import GoSem.ClaimJoined
import GoSem.ClaimMapViews
import Derived.JoinedTies
import Derived.KernelRfl
namespace Go.Proofs.Ytadajaoidhbmgaa
/- THE CELL 'sum', in the pinned program and in every row, IS THE sha256 OF THE DUMP (.gsa) THAT YtadajaoidhbmgaaProg.lean LOADS. Nothing in Lean hashes anything: it is a label: what it is worth is what the hold of that sum in a sandbox is worth. -/
noncomputable def Try.pinned : Pinned := { name := "ytadajaoidhbmgaa", sum := "9a6316907e65b56256e736917148389a58497a12c8257cae7158cb6abc84c9fc", checked := Try.checked }
namespace Rows
def none {H : Type} : Left H := { results := [], args := [] }

/-- 'paintboxlaw09.SampleLevels': WHATEVER THE INPUT: true; the input reads as it did. -/
def sampleLevelsSpec : ChangeSpec := { name := "sampleLevels", fn := fun _ => fun
  | [d1, d2] => { results := [.lit (.bool true)], args := [d1, d2] }
  | _ => none }
def sampleLevelsRow : OpenClaim := { program := "ytadajaoidhbmgaa", sum := "9a6316907e65b56256e736917148389a58497a12c8257cae7158cb6abc84c9fc", func := "paintbox/paintboxlaw09.SampleLevels", spec := "sampleLevels", apart := false }
def SampleLevelsSaid : Prop := sampleLevelsRow.holds Try.pinned (OpenSpec.ofChange sampleLevelsSpec)

/-- ITS FALSE NEIGHBOUR: 'it returns false'. Refute it at one input. -/
def sampleLevelsWrong : ChangeSpec := { name := "sampleLevels", fn := fun _ => fun
  | [d1, d2] => { results := [.lit (.bool false)], args := [d1, d2] }
  | _ => none }
def SampleLevelsWrongFalsely : Prop := sampleLevelsRow.holds Try.pinned (OpenSpec.ofChange sampleLevelsWrong)

/-- 'paintboxlaw09.SampleAts': WHATEVER THE INPUT: true; the input reads as it did. -/
def sampleAtsSpec : ChangeSpec := { name := "sampleAts", fn := fun _ => fun
  | [d1, d2] => { results := [.lit (.bool true)], args := [d1, d2] }
  | _ => none }
def sampleAtsRow : OpenClaim := { program := "ytadajaoidhbmgaa", sum := "9a6316907e65b56256e736917148389a58497a12c8257cae7158cb6abc84c9fc", func := "paintbox/paintboxlaw09.SampleAts", spec := "sampleAts", apart := false }
def SampleAtsSaid : Prop := sampleAtsRow.holds Try.pinned (OpenSpec.ofChange sampleAtsSpec)

/-- ITS FALSE NEIGHBOUR: 'it returns false'. Refute it at one input. -/
def sampleAtsWrong : ChangeSpec := { name := "sampleAts", fn := fun _ => fun
  | [d1, d2] => { results := [.lit (.bool false)], args := [d1, d2] }
  | _ => none }
def SampleAtsWrongFalsely : Prop := sampleAtsRow.holds Try.pinned (OpenSpec.ofChange sampleAtsWrong)

/- THE SECOND FORM. 'bulk': how many values and letters a reading holds, each counted each time it is reached (what is shared counts as often as it is met; a slice's spare places count too). A statement '..UptoSaid' is the law's where the arguments, and the package variables that the reading takes, are together of bulk at most 1048576: NARROWER than '..Said'. Prove '..Said' where nothing that the law and all that it calls make is longer than what came in: it says more and counts as full. Else prove '..UptoSaid'. A law counts once. -/
mutual
def uptoBulk {H : Type} : DataW H → Nat
  | .lit (.string bytes) => bytes.length + 1
  | .lit _ => 1
  | .nil => 1
  | .ptr d => uptoBulk d + 1
  | .slice elems spare => uptoBulkAll elems + uptoBulkAll spare + 1
  | .agg parts => uptoBulkAll parts + 1
  | .iface _ d => uptoBulk d + 1
  | .map entries => uptoBulkEntries entries + 1
  | .held _ => 1
def uptoBulkAll {H : Type} : List (DataW H) → Nat
  | [] => 0
  | d :: r => uptoBulk d + uptoBulkAll r
def uptoBulkEntries {H : Type} : List (Lit × DataW H) → Nat
  | [] => 0
  | x :: r => uptoBulkEntry x + uptoBulkEntries r
def uptoBulkEntry {H : Type} : Lit × DataW H → Nat
  | (.string bytes, d) => bytes.length + uptoBulk d + 1
  | (_, d) => uptoBulk d + 1
 end
def uptoSmall : (H : Type) → List (DataW H) → Bool := fun _ ds => decide (uptoBulkAll ds ≤ 1048576)
def OpenSpec.upto (s : _root_.Go.ChangeSpec) : _root_.Go.OpenSpec := { _root_.Go.OpenSpec.ofChange s with cond := some uptoSmall }

/-- 'paintboxlaw09.SampleLevels', WHERE WHAT IT READS IS OF BULK AT MOST 1048576: true; the input reads as it did. -/
def sampleLevelsUptoRow : OpenClaim := { program := "ytadajaoidhbmgaa", sum := "9a6316907e65b56256e736917148389a58497a12c8257cae7158cb6abc84c9fc", func := "paintbox/paintboxlaw09.SampleLevels", spec := "sampleLevels", apart := false, narrowed := true }
def SampleLevelsUptoSaid : Prop := sampleLevelsUptoRow.holds Try.pinned (OpenSpec.upto sampleLevelsSpec)

/-- 'paintboxlaw09.SampleAts', WHERE WHAT IT READS IS OF BULK AT MOST 1048576: true; the input reads as it did. -/
def sampleAtsUptoRow : OpenClaim := { program := "ytadajaoidhbmgaa", sum := "9a6316907e65b56256e736917148389a58497a12c8257cae7158cb6abc84c9fc", func := "paintbox/paintboxlaw09.SampleAts", spec := "sampleAts", apart := false, narrowed := true }
def SampleAtsUptoSaid : Prop := sampleAtsUptoRow.holds Try.pinned (OpenSpec.upto sampleAtsSpec)

end Rows
end Go.Proofs.Ytadajaoidhbmgaa
