/-
  Colours: near. What the dump lacks is left out.
-/
import Derived.Test.YtadajaoidhbmgaaSW
import Derived.Test.YtadajaoidhbmgaaSH
import Derived.Test.YtadajaoidhbmgaaFr
namespace Go.Proofs.Ytadajaoidhbmgaa
open Go.RowKit
set_option linter.unusedVariables false
set_option linter.unusedSimpArgs false

end Go.Proofs.Ytadajaoidhbmgaa
