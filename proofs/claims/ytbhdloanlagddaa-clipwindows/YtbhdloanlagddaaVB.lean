/-
  Vectors: the operations of two and of one, by component, and All. What the dump lacks is left out.
-/
import Derived.Test.YtbhdloanlagddaaVA
namespace Go.Proofs.Ytbhdloanlagddaa
open Go.RowKit
set_option linter.unusedVariables false

/-- What the operation number op of two does with two numbers. -/
def twoI (op : Int) (a b : Int) : Int :=
  if op = 0 then addI a b else if op = 1 then subI a b else if op = 2 then mulI a b else if op = 3 then divI a b else if op = 4 then min a b else if op = 5 then max a b else if op = 6 then modI a b else if a ≤ b then 65536 else 0

theorem twoI_i32 (op : Int) {a b : Int} (ha : I32 a) (hb : I32 b) : I32 (twoI op a b) := by
  unfold twoI
  split; exact addI_i32 _ _
  split; exact subI_i32 _ _
  split; exact mulI_i32 _ _
  split; exact divI_i32 _ _
  split; unfold I32 at *; omega
  split; unfold I32 at *; omega
  split; exact subI_i32 _ _
  unfold I32
  split <;> omega

theorem op_cases {op : Int} (h0 : 0 ≤ op) (h7 : op ≤ 7) : op = 0 ∨ op = 1 ∨ op = 2 ∨ op = 3 ∨ op = 4 ∨ op = 5 ∨ op = 6 ∨ op = 7 := by omega

end Go.Proofs.Ytbhdloanlagddaa
