/-
  The document's Right, whatever Op, and its May.
-/
import Derived.Test.YtfoffnbkfnbglaaCRb1
import Derived.Test.YtfoffnbkfnbglaaCRb2
import Derived.Test.YtfoffnbkfnbglaaCRb3
import Derived.Test.YtfoffnbkfnbglaaCRb4
import Derived.Test.YtfoffnbkfnbglaaCRb5
import Derived.Test.YtfoffnbkfnbglaaCRb6
import Derived.Test.YtfoffnbkfnbglaaCRb7
import Derived.Test.YtfoffnbkfnbglaaCRb8
import Derived.Test.YtfoffnbkfnbglaaCRb9
namespace Go.Proofs.Ytfoffnbkfnbglaa
open Go.RowKit
set_option linter.unusedVariables false
set_option linter.unusedSimpArgs false

theorem right_any (C : Cod) (v : Value) (L : List (Nat → Int)) (k : Nat) (w : World) (h : IR w v L) (hk : k < L.length) (hst : C.stage = 1 ∨ C.stage = 2) : Calls Try.prog 36 #[.agg #[.int .i64 (C).stage, v, .int .i64 (C).regs, .int .i64 (C).attr, .int .i64 (C).unif, .int .i64 (C).vary], .int .i64 (k : Int)] w fun e w' => e = .returned (.bool (insB C L.length k L[k])) ∧ Ext w w' := by
  rcases (by omega : L[k] 0 = 1 ∨ L[k] 0 = 2 ∨ L[k] 0 = 3 ∨ L[k] 0 = 4 ∨ L[k] 0 = 5 ∨ L[k] 0 = 6 ∨ L[k] 0 = 7 ∨ L[k] 0 = 8 ∨ L[k] 0 = 9 ∨ L[k] 0 = 10 ∨ L[k] 0 = 11 ∨ L[k] 0 = 12 ∨ ¬ (1 ≤ L[k] 0 ∧ L[k] 0 ≤ 12)) with ho | ho | ho | ho | ho | ho | ho | ho | ho | ho | ho | ho | ho
  · exact right_1 C v L k w h hk hst ho
  · exact right_2 C v L k w h hk hst ho
  · exact right_3 C v L k w h hk hst ho
  · exact right_4 C v L k w h hk hst ho
  · exact right_5 C v L k w h hk hst ho
  · exact right_6 C v L k w h hk hst ho
  · exact right_7 C v L k w h hk hst ho
  · exact right_8 C v L k w h hk hst ho
  · exact right_9 C v L k w h hk hst ho
  · exact right_10 C v L k w h hk hst ho
  · exact right_11 C v L k w h hk hst ho
  · exact right_12 C v L k w h hk hst ho
  · exact right_x C v L k w h hk hst ho
end Go.Proofs.Ytfoffnbkfnbglaa
