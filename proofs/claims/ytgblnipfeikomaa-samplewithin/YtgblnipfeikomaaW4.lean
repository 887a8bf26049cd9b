/-
  The walks of octet's put, Put16, Put32. What the dump lacks is left out.
-/
import Derived.Test.YtgblnipfeikomaaW1
import Derived.Test.YtgblnipfeikomaaNum
namespace Go.Proofs.Ytgblnipfeikomaa
open Go.RowKit

end Go.Proofs.Ytgblnipfeikomaa
