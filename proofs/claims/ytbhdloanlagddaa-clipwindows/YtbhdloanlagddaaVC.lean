/-
  Vectors: Two. What the dump lacks is left out.
-/
import Derived.Test.YtbhdloanlagddaaVB
namespace Go.Proofs.Ytbhdloanlagddaa
open Go.RowKit
set_option linter.unusedVariables false

theorem eql_two (w : World) (g : FuncId) : (binOp .eql 74 (.func (.func g) #[] #[]) .nilFunc).run Try.prog w = .ok (.bool false) w := by kernel_rfl
theorem eql_two_nil (w : World) : (binOp .eql 74 .nilFunc .nilFunc).run Try.prog w = .ok (.bool true) w := by kernel_rfl

end Go.Proofs.Ytbhdloanlagddaa
