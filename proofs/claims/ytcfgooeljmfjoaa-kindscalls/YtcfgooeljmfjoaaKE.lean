/-
  Types: what comes of two by + - * and /, and of a value that is given to a place. What the dump lacks is left out.
-/
import Derived.Test.YtcfgooeljmfjoaaKD
namespace Go.Proofs.Ytcfgooeljmfjoaa
open Go.RowKit
set_option linter.unusedVariables false
set_option linter.unusedSimpArgs false

theorem Reg.add {w0 w1 : World} {l : List (Nat × Ty)} {R : Nat} (h : Reg w0 l R w1) (t : Ty) : Reg w0 ((w1.heap.size, t) :: l) R (w1.alloc (.cells #[.int .i64 (t).1, .int .i64 (t).2] 25)) := by
  have h9 := Reg.ext ((Ext.refl w1).alloc (.cells #[.int .i64 (t).1, .int .i64 (t).2] 25)) h
  obtain ⟨h0, h1, ⟨x, y, h2⟩, h3, h4⟩ := h
  refine ⟨h9.1, ?_, h9.2.2.1, h3, ?_⟩
  · intro p hp
    rcases List.mem_cons.1 hp with rfl | hp
    · exact Blk.new _ _ _
    · exact h9.2.1 p hp
  · intro p hp
    rcases List.mem_cons.1 hp with rfl | hp
    · exact Nat.ne_of_gt h2.lt
    · exact h4 p hp
def szB (a c : Ty) : Bool := (a.2 == c.2 || plnP a) || plnP c
theorem togB_eq (a c : Ty) : togB a c = (numP a && (a.1 == c.1) && szB a c) := rfl

end Go.Proofs.Ytcfgooeljmfjoaa
