/-
  The walks of octet's put, Put16, Put32. What the dump lacks is left out.
-/
import Derived.Test.YtgblnipfeikomabW1
import Derived.Test.YtgblnipfeikomabNum
namespace Go.Proofs.Ytgblnipfeikomab
open Go.RowKit

end Go.Proofs.Ytgblnipfeikomab
