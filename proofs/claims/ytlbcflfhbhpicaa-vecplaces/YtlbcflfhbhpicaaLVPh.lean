/-
  For the walks of VecPlaces: what the pair holds while a region goes its ways.
-/
import Derived.Test.YtlbcflfhbhpicaaVF
import Derived.Test.YtlbcflfhbhpicaaVW
import Derived.Test.YtlbcflfhbhpicaaVU
import Derived.Test.YtlbcflfhbhpicaaQa
import Derived.Test.YtlbcflfhbhpicaaQv
import Derived.Deep.CutRange
namespace Go.Proofs.Ytlbcflfhbhpicaa
open Go.ChangeShapes Go.WideShapes Go.ChangeAt Go.RowKit
set_option linter.unusedVariables false

theorem infoInt : (Try.prog.info? 3).map (fun i => (i.zero, i.size, i.bytes)) = some (some (.int .i64 0), 1, 8) := by kernel_rfl

/-- What the pair holds, as long as it stays. -/
theorem held_pair {w0 : World} {b : Nat} {x y : Nat → Int} {t : TypeId} (h : Blk w0 b #[.int .i32 (x 0), .int .i32 (x 1), .int .i32 (x 2), .int .i32 (x 3), .int .i32 (y 0), .int .i32 (y 1), .int .i32 (y 2), .int .i32 (y 3)] t) :
    ((∀ w', Ext w0 w' → w'.cell? ⟨b, 0, none⟩ = some (.int .i32 (x 0))) ∧ (∀ w', Ext w0 w' → w'.cell? ⟨b, 1, none⟩ = some (.int .i32 (x 1))) ∧ (∀ w', Ext w0 w' → w'.cell? ⟨b, 2, none⟩ = some (.int .i32 (x 2))) ∧ (∀ w', Ext w0 w' → w'.cell? ⟨b, 3, none⟩ = some (.int .i32 (x 3)))) ∧
    (∀ w', Ext w0 w' → w'.cell? ⟨b, 4, none⟩ = some (.int .i32 (y 0))) ∧ (∀ w', Ext w0 w' → w'.cell? ⟨b, 5, none⟩ = some (.int .i32 (y 1))) ∧ (∀ w', Ext w0 w' → w'.cell? ⟨b, 6, none⟩ = some (.int .i32 (y 2))) ∧ (∀ w', Ext w0 w' → w'.cell? ⟨b, 7, none⟩ = some (.int .i32 (y 3))) :=
  ⟨⟨fun w' hx => (h.ext hx).cell rfl, fun w' hx => (h.ext hx).cell rfl, fun w' hx => (h.ext hx).cell rfl, fun w' hx => (h.ext hx).cell rfl⟩, fun w' hx => (h.ext hx).cell rfl, fun w' hx => (h.ext hx).cell rfl, fun w' hx => (h.ext hx).cell rfl, fun w' hx => (h.ext hx).cell rfl⟩

theorem blk_set4 {w : World} {b : Nat} {a : Nat → Int} {t : TypeId} (h : Blk w b #[.int .i32 (a 0), .int .i32 (a 1), .int .i32 (a 2), .int .i32 (a 3)] t) (x0 x1 x2 x3 : Value) :
    Blk ((((w.setCell ⟨b, 0, none⟩ x0).setCell ⟨b, 1, none⟩ x1).setCell ⟨b, 2, none⟩ x2).setCell ⟨b, 3, none⟩ x3) b #[x0, x1, x2, x3] t := Blk.set4 h x0 x1 x2 x3
end Go.Proofs.Ytlbcflfhbhpicaa
