/-
  Images: the document's Copy. What the dump lacks is left out.
-/
import Derived.Test.YtgblnipfeikomabIX
import Derived.Test.YtgblnipfeikomabQa
namespace Go.Proofs.Ytgblnipfeikomab
open Go.RowKit
set_option linter.unusedVariables false
set_option linter.unusedSimpArgs false

/-- How far Copy has come. -/
structure CpI (w wr : World) (I : Img) (v : Value) (L : List Ent) (ao : Option Addr) (cap k : Nat) (D : List Ent) : Prop where
  len : D.length = k
  abs : absL D = absL (L.take k)
  lo : LO wr (w.heap.size + 2) (.slice ao D.length cap) D
  blk : Blk wr w.heap.size #[.int .i64 I.f, v, .int .i64 I.ws, .int .i64 I.wt, .int .i64 I.mn, .int .i64 I.mg] 24
  res : Blk wr (w.heap.size + 1) #[.int .i64 0, .slice none 0 0, .int .i64 0, .int .i64 0, .int .i64 0, .int .i64 0] 24
  ext : Ext w wr

end Go.Proofs.Ytgblnipfeikomab
