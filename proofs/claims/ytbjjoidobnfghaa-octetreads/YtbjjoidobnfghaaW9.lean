/-
  The walk of the document's answer for a call on a Reader: Do: what it comes to.
-/
import Derived.Test.YtbjjoidobnfghaaW2
import Derived.Test.YtbjjoidobnfghaaW8
import Derived.Test.YtbjjoidobnfghaaBlk
import Derived.Deep.RegionWith
namespace Go.Proofs.Ytbjjoidobnfghaa
open Go.RowKit

/-- How many bytes a call of kind K takes. -/
def cnt (K n : Int) : Int := if K = 0 ∨ K = 3 then 1 else if K = 1 ∨ K = 4 then 2 else if K = 2 ∨ K = 5 then 4 else n
/-- The number that it tells. -/
def toldN (K : Int) (l : List Int) : Int := if K < 3 then numOf l else if K < 6 then sgn (half l.length) (numOf l) else 0
/-- The bytes that it tells. -/
def toldB (K : Int) (l : List Int) : List Int := if K = 6 then l else []
theorem toldN_nil (K : Int) : toldN K [] = 0 := by
  unfold toldN
  split
  · rfl
  · split
    · simp [numOf, sgn, half]
    · rfl
theorem toldB_nil (K : Int) : toldB K [] = [] := by unfold toldB; split <;> rfl

/-- What Do comes to, at a call of kind K with the number n. -/
def DoEnds (sv : Value) (bs : List Int) (p : Nat) (err K n : Int) (w : World) (e : Ending) (w' : World) : Prop :=
  ∃ bv, e = .returned (.tuple #[.agg #[sv, .int .i64 ((took bs p err (cnt K n)).2.1 : Int), .int .i64 (took bs p err (cnt K n)).2.2], .agg #[.int .i64 (toldN K (took bs p err (cnt K n)).1), bv]]) ∧
    Row .u8 w' bv (toldB K (took bs p err (cnt K n)).1) ∧ Ext w w'
theorem DoEnds.nothing {sv : Value} {bs : List Int} {p q : Nat} {err er K n : Int} {w w' : World} (ht : took bs p err (cnt K n) = ([], q, er)) (hx : Ext w w') :
    DoEnds sv bs p err K n w (.returned (.tuple #[.agg #[sv, .int .i64 (q : Int), .int .i64 er], .agg #[.int .i64 0, .slice none 0 0]])) w' := by
  refine ⟨.slice none 0 0, ?_, ?_, hx⟩
  · rw [ht]
    simp only [toldN_nil]
  · rw [ht]
    simp only [toldB_nil]
    exact Row.nil _ _
theorem DoEnds.full {sv bv : Value} {bs l : List Int} {p q : Nat} {err er K n x : Int} {w w' : World} (ht : took bs p err (cnt K n) = (l, q, er)) (hn : toldN K l = x) (hb : Row .u8 w' bv (toldB K l)) (hx : Ext w w') :
    DoEnds sv bs p err K n w (.returned (.tuple #[.agg #[sv, .int .i64 (q : Int), .int .i64 er], .agg #[.int .i64 x, bv]])) w' := by
  refine ⟨bv, ?_, ?_, hx⟩
  · rw [ht, hn]
  · rw [ht]
    exact hb
end Go.Proofs.Ytbjjoidobnfghaa
