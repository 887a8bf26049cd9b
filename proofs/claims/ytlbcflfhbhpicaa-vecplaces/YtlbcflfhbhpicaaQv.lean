/-
  What vectors and pairs in memory hold later.
-/
import Derived.Test.YtlbcflfhbhpicaaQt
import Derived.Test.YtlbcflfhbhpicaaVF
namespace Go.Proofs.Ytlbcflfhbhpicaa
open Go.RowKit

theorem later_vec {w : World} {b : Nat} {a : Nat → Int} {t : TypeId} (h : Blk w b #[.int .i32 (a 0), .int .i32 (a 1), .int .i32 (a 2), .int .i32 (a 3)] t) :
    (∀ x : Later w, x.w.cell? ⟨b, 0, none⟩ = some (.int .i32 (a 0))) ∧ (∀ x : Later w, x.w.cell? ⟨b, 1, none⟩ = some (.int .i32 (a 1))) ∧ (∀ x : Later w, x.w.cell? ⟨b, 2, none⟩ = some (.int .i32 (a 2))) ∧ (∀ x : Later w, x.w.cell? ⟨b, 3, none⟩ = some (.int .i32 (a 3))) := by
  obtain ⟨c0, c1, c2, c3⟩ := h.vec4
  exact ⟨cell_later c0, cell_later c1, cell_later c2, cell_later c3⟩
theorem later_pair {w : World} {b : Nat} {a c : Nat → Int} {t : TypeId} (h : Blk w b #[.int .i32 (a 0), .int .i32 (a 1), .int .i32 (a 2), .int .i32 (a 3), .int .i32 (c 0), .int .i32 (c 1), .int .i32 (c 2), .int .i32 (c 3)] t) :
    ((∀ x : Later w, x.w.cell? ⟨b, 0, none⟩ = some (.int .i32 (a 0))) ∧ (∀ x : Later w, x.w.cell? ⟨b, 1, none⟩ = some (.int .i32 (a 1))) ∧ (∀ x : Later w, x.w.cell? ⟨b, 2, none⟩ = some (.int .i32 (a 2))) ∧ (∀ x : Later w, x.w.cell? ⟨b, 3, none⟩ = some (.int .i32 (a 3)))) ∧
    (∀ x : Later w, x.w.cell? ⟨b, 4, none⟩ = some (.int .i32 (c 0))) ∧ (∀ x : Later w, x.w.cell? ⟨b, 5, none⟩ = some (.int .i32 (c 1))) ∧ (∀ x : Later w, x.w.cell? ⟨b, 6, none⟩ = some (.int .i32 (c 2))) ∧ (∀ x : Later w, x.w.cell? ⟨b, 7, none⟩ = some (.int .i32 (c 3))) := by
  obtain ⟨⟨p0, p1, p2, p3⟩, p4, p5, p6, p7⟩ := h.pair
  exact ⟨⟨cell_later p0, cell_later p1, cell_later p2, cell_later p3⟩, cell_later p4, cell_later p5, cell_later p6, cell_later p7⟩
end Go.Proofs.Ytlbcflfhbhpicaa
