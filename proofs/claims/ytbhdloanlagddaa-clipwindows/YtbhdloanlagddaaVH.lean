/-
  Plain facts on blocks that hold vectors, and on stores into them. Nothing here speaks of the program.
-/
import Derived.Test.YtbhdloanlagddaaBlk
namespace Go.Proofs.Ytbhdloanlagddaa
open Go.RowKit

def nul : Nat → Int := fun _ => 0

theorem Blk.at {w : World} {b : Nat} {cs : Array Value} {t : TypeId} (h : w.heap.size = b) : Blk (w.alloc (.cells cs t)) b cs t := h ▸ Blk.new w cs t
theorem ext_set {w w1 : World} {b i : Nat} {v : Value} (h : Ext w w1) (hb : w.heap.size ≤ b) : Ext w (w1.setCell ⟨b, i, none⟩ v) :=
  below_grown h (grownBy_set w1 b i v) h.size hb
theorem Blk.vec {w : World} {b : Nat} {a : Nat → Int} {t : TypeId} (h : Blk w b #[.int .i32 (a 0), .int .i32 (a 1), .int .i32 (a 2), .int .i32 (a 3)] t) (k : Nat) (hk : k < 4) : w.cell? ⟨b, k, none⟩ = some (.int .i32 (a k)) := by
  refine h.cell ?_
  rcases (by omega : k = 0 ∨ k = 1 ∨ k = 2 ∨ k = 3) with rfl | rfl | rfl | rfl <;> rfl
theorem Blk.vec4 {w : World} {b : Nat} {a : Nat → Int} {t : TypeId} (h : Blk w b #[.int .i32 (a 0), .int .i32 (a 1), .int .i32 (a 2), .int .i32 (a 3)] t) : w.cell? ⟨b, 0, none⟩ = some (.int .i32 (a 0)) ∧ w.cell? ⟨b, 1, none⟩ = some (.int .i32 (a 1)) ∧ w.cell? ⟨b, 2, none⟩ = some (.int .i32 (a 2)) ∧ w.cell? ⟨b, 3, none⟩ = some (.int .i32 (a 3)) :=
  ⟨h.vec 0 (by omega), h.vec 1 (by omega), h.vec 2 (by omega), h.vec 3 (by omega)⟩
end Go.Proofs.Ytbhdloanlagddaa
