/-
  Vectors: Cross, Dot. What the dump lacks is left out.
-/
import Derived.Test.YtbhdloanlagddaaVD
namespace Go.Proofs.Ytbhdloanlagddaa
open Go.RowKit
set_option linter.unusedVariables false

/-- A product less another one. -/
def crossI (a b : Nat → Int) (i j : Nat) : Int := subI (mulI (a i) (b j)) (mulI (a j) (b i))

/-- The sum of the first k numbers of p, from the first one on. -/
def sumI (p : Nat → Int) : Nat → Int
  | 0 => 0
  | k + 1 => addI (sumI p k) (p k)

theorem sumI_i32 (p : Nat → Int) : ∀ k, I32 (sumI p k)
  | 0 => by unfold sumI I32; omega
  | k + 1 => addI_i32 _ _

theorem index4 (p : Nat → Int) (k : Nat) (hk : k < 4) (w : World) : (Instr.index 26 (.agg #[.int .i32 (p 0), .int .i32 (p 1), .int .i32 (p 2), .int .i32 (p 3)]) (.int .i64 k)).run Try.prog w = .ok (.int .i32 (p k)) w := by
  rcases (by omega : k = 0 ∨ k = 1 ∨ k = 2 ∨ k = 3) with rfl | rfl | rfl | rfl
  · have h : ∀ x0 x1 x2 x3 : Value, (Instr.index 26 (.agg #[x0, x1, x2, x3]) (.int .i64 0)).run Try.prog w = .ok x0 w := fun _ _ _ _ => by kernel_rfl
    exact h _ _ _ _
  · have h : ∀ x0 x1 x2 x3 : Value, (Instr.index 26 (.agg #[x0, x1, x2, x3]) (.int .i64 1)).run Try.prog w = .ok x1 w := fun _ _ _ _ => by kernel_rfl
    exact h _ _ _ _
  · have h : ∀ x0 x1 x2 x3 : Value, (Instr.index 26 (.agg #[x0, x1, x2, x3]) (.int .i64 2)).run Try.prog w = .ok x2 w := fun _ _ _ _ => by kernel_rfl
    exact h _ _ _ _
  · have h : ∀ x0 x1 x2 x3 : Value, (Instr.index 26 (.agg #[x0, x1, x2, x3]) (.int .i64 3)).run Try.prog w = .ok x3 w := fun _ _ _ _ => by kernel_rfl
    exact h _ _ _ _

/-- The vector of four numbers. -/
def v4 (x0 x1 x2 x3 : Int) (i : Nat) : Int := if i = 0 then x0 else if i = 1 then x1 else if i = 2 then x2 else if i = 3 then x3 else 0

theorem v4_i32 {x0 x1 x2 x3 : Int} (h0 : I32 x0) (h1 : I32 x1) (h2 : I32 x2) (h3 : I32 x3) (i : Nat) : I32 (v4 x0 x1 x2 x3 i) := by
  unfold v4
  split; exact h0
  split; exact h1
  split; exact h2
  split; exact h3
  unfold I32; omega

/-- What '==' says of two vectors. -/
theorem eqV (x0 x1 x2 x3 y0 y1 y2 y3 : Int) (w : World) : (Op.equalIn 10000 26 (.agg #[.int .i32 x0, .int .i32 x1, .int .i32 x2, .int .i32 x3]) (.agg #[.int .i32 y0, .int .i32 y1, .int .i32 y2, .int .i32 y3])).run Try.prog w = .ok (x0 == y0 && (x1 == y1 && (x2 == y2 && x3 == y3))) w := by
  have u3 := Try.underlying22
  have a3 := Try.isAgg22
  have z3 := Try.sizeOf22
  rw [show (10000 : Nat) = 9999 + 1 from rfl, Op.equalIn]
  simp only [Sem.run_bind, run_underlying Try.underlying26, Result.andThen_ok]
  simp only [Std.Legacy.Range.forIn_eq_forIn_range', Std.Legacy.Range.size, Nat.sub_zero, Nat.add_sub_cancel, Nat.div_one, List.range'_succ, List.range'_zero, List.forIn_cons, List.forIn_nil]
  go_simp
  by_cases h1 : x0 = y0 <;> by_cases h2 : x1 = y1 <;> by_cases h3 : x2 = y2 <;> by_cases h4 : x3 = y3 <;> simp [h1, h2, h3, h4]

end Go.Proofs.Ytbhdloanlagddaa
