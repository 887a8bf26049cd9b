/-
  Colours: near. What the dump lacks is left out.
-/
import Derived.Test.YtgblnipfeikomabSW
import Derived.Test.YtgblnipfeikomabSH
import Derived.Test.YtgblnipfeikomabFr
namespace Go.Proofs.Ytgblnipfeikomab
open Go.RowKit
set_option linter.unusedVariables false
set_option linter.unusedSimpArgs false

end Go.Proofs.Ytgblnipfeikomab
