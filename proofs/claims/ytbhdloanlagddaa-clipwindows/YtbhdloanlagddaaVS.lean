/-
  Vectors: the document's One, Ones, less, Cross, Dot, Mix, Clamp. What the dump lacks is left out.
-/
import Derived.Test.YtbhdloanlagddaaVR
namespace Go.Proofs.Ytbhdloanlagddaa
open Go.RowKit
set_option linter.unusedVariables false
set_option linter.unusedSimpArgs false

theorem addI_zero {a : Int} (h : I32 a) : addI a 0 = a := by unfold addI; rw [Int.add_zero]; exact rawI_id h
theorem sumI_one {p : Nat → Int} (h : I32 (p 0)) : sumI p 1 = p 0 := by
  show addI 0 (p 0) = p 0
  unfold addI
  rw [Int.zero_add]
  exact rawI_id h
/-- Behind the last number the sum stays. -/
theorem sumI_cut (f : Nat → Int) (n : Nat) : ∀ j, sumI (cut n f) (n + j) = sumI (cut n f) n
  | 0 => rfl
  | j + 1 => by
    rw [show n + (j + 1) = (n + j) + 1 from rfl, sumI, sumI_cut f n j]
    have : cut n f (n + j) = 0 := by simp [cut]; omega
    rw [this]
    exact addI_zero (sumI_i32 _ _)

end Go.Proofs.Ytbhdloanlagddaa
