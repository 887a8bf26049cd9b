/-
  Codes: the walk of fieldsMayBe, Op by Op (all). What the dump lacks is left out.
-/
import Derived.Test.YtfoffnbkfnbglaaCJa
import Derived.Test.YtfoffnbkfnbglaaCJb
import Derived.Test.YtfoffnbkfnbglaaCJc
import Derived.Test.YtfoffnbkfnbglaaCJd
import Derived.Deep.Cut
namespace Go.Proofs.Ytfoffnbkfnbglaa
open Go.RowKit
set_option linter.unusedVariables false
set_option linter.unusedSimpArgs false

theorem fields_any (C : Cod) (v : Value) (L : List (Nat → Int)) (k : Nat) (w : World) (h : IR w v L) (hk : k < L.length) : Calls Try.prog 56 #[.agg #[.int .i64 (C).stage, v, .int .i64 (C).regs, .int .i64 (C).attr, .int .i64 (C).unif, .int .i64 (C).vary], .int .i64 (k : Int)] w fun e w' => e = .returned (.bool (fldB C L.length k L[k])) ∧ Ext w w' := by
  rcases (by omega : L[k] 0 = 1 ∨ L[k] 0 = 2 ∨ L[k] 0 = 3 ∨ L[k] 0 = 4 ∨ L[k] 0 = 5 ∨ L[k] 0 = 6 ∨ L[k] 0 = 7 ∨ L[k] 0 = 8 ∨ L[k] 0 = 9 ∨ L[k] 0 = 10 ∨ L[k] 0 = 11 ∨ L[k] 0 = 12 ∨ (L[k] 0 < 1 ∨ 12 < L[k] 0)) with h0 | h0 | h0 | h0 | h0 | h0 | h0 | h0 | h0 | h0 | h0 | h0 | h0
  · exact fld_1 C v L k w h hk h0
  · exact fld_2 C v L k w h hk h0
  · exact fld_3 C v L k w h hk h0
  · exact fld_4 C v L k w h hk h0
  · exact fld_5 C v L k w h hk h0
  · exact fld_6 C v L k w h hk h0
  · exact fld_7 C v L k w h hk h0
  · exact fld_8 C v L k w h hk h0
  · exact fld_9 C v L k w h hk h0
  · exact fld_10 C v L k w h hk h0
  · exact fld_11 C v L k w h hk h0
  · exact fld_12 C v L k w h hk h0
  · exact fld_none C v L k w h hk h0
end Go.Proofs.Ytfoffnbkfnbglaa
