/-
  '==' of two instructions, of two rows of seven numbers.
-/
import Derived.Test.YtfoffnbkfnbglaaCB
namespace Go.Proofs.Ytfoffnbkfnbglaa
open Go.RowKit
set_option linter.unusedVariables false
set_option linter.unusedSimpArgs false

theorem eqInt (d : Nat) (a b : Int) (w : World) : (Op.equalIn (d + 1) 3 (.int .i64 a) (.int .i64 b)).run Try.prog w = .ok (a == b) w := by
  rw [Op.equalIn]
  simp only [Sem.run_bind, run_underlying Try.underlying3, Result.andThen_ok]
  go_simp
theorem eqFix (d : Nat) (a b : Int) (w : World) : (Op.equalIn (d + 1) 34 (.int .i32 a) (.int .i32 b)).run Try.prog w = .ok (a == b) w := by
  rw [Op.equalIn]
  simp only [Sem.run_bind, run_underlying Try.underlying34, Result.andThen_ok]
  go_simp
theorem eqVec (d : Nat) (x0 x1 x2 x3 y0 y1 y2 y3 : Int) (w : World) : (Op.equalIn (d + 2) 36 (.agg #[.int .i32 x0, .int .i32 x1, .int .i32 x2, .int .i32 x3]) (.agg #[.int .i32 y0, .int .i32 y1, .int .i32 y2, .int .i32 y3])).run Try.prog w = .ok (x0 == y0 && (x1 == y1 && (x2 == y2 && x3 == y3))) w := by
  have u3 := Try.underlying34
  have a3 := Try.isAgg34
  have z3 := Try.sizeOf34
  have e := fun a b => eqFix d a b w
  rw [show d + 2 = (d + 1) + 1 from rfl, Op.equalIn]
  simp only [Sem.run_bind, run_underlying Try.underlying36, Result.andThen_ok]
  simp only [Std.Legacy.Range.forIn_eq_forIn_range', Std.Legacy.Range.size, Nat.sub_zero, Nat.add_sub_cancel, Nat.div_one, List.range'_succ, List.range'_zero, List.forIn_cons, List.forIn_nil]
  go_simp
  by_cases h1 : x0 = y0 <;> by_cases h2 : x1 = y1 <;> by_cases h3 : x2 = y2 <;> by_cases h4 : x3 = y3 <;> simp [h1, h2, h3, h4]
theorem eqPl (d : Nat) (x0 x1 x2 x3 y0 y1 y2 y3 : Int) (w : World) : (Op.equalIn (d + 2) 37 (.agg #[.int .i64 x0, .int .i64 x1, .int .i64 x2, .int .i64 x3]) (.agg #[.int .i64 y0, .int .i64 y1, .int .i64 y2, .int .i64 y3])).run Try.prog w = .ok (x0 == y0 && (x1 == y1 && (x2 == y2 && x3 == y3))) w := by
  have u3 := Try.underlying3
  have a3 := Try.isAgg3
  have z3 := Try.sizeOf3
  have e := fun a b => eqInt d a b w
  rw [show d + 2 = (d + 1) + 1 from rfl, Op.equalIn]
  simp only [Sem.run_bind, run_underlying Try.underlying37, Result.andThen_ok]
  simp only [Std.Legacy.Range.forIn_eq_forIn_range', Std.Legacy.Range.size, Nat.sub_zero, Nat.add_sub_cancel, Nat.div_one, List.range'_succ, List.range'_zero, List.forIn_cons, List.forIn_nil]
  go_simp
  by_cases h1 : x0 = y0 <;> by_cases h2 : x1 = y1 <;> by_cases h3 : x2 = y2 <;> by_cases h4 : x3 = y3 <;> simp [h1, h2, h3, h4]
theorem eqSeven (x0 x1 x2 x3 x4 x5 x6 y0 y1 y2 y3 y4 y5 y6 : Int) (w : World) : (Op.equalIn 10000 52 (.agg #[.int .i64 x0, .int .i64 x1, .int .i64 x2, .int .i64 x3, .int .i64 x4, .int .i64 x5, .int .i64 x6]) (.agg #[.int .i64 y0, .int .i64 y1, .int .i64 y2, .int .i64 y3, .int .i64 y4, .int .i64 y5, .int .i64 y6])).run Try.prog w = .ok (x0 == y0 && (x1 == y1 && (x2 == y2 && (x3 == y3 && (x4 == y4 && (x5 == y5 && x6 == y6)))))) w := by
  have u3 := Try.underlying3
  have a3 := Try.isAgg3
  have z3 := Try.sizeOf3
  have e := fun a b => eqInt 9998 a b w
  rw [show (10000 : Nat) = 9999 + 1 from rfl, Op.equalIn]
  simp only [Sem.run_bind, run_underlying Try.underlying52, Result.andThen_ok]
  simp only [Std.Legacy.Range.forIn_eq_forIn_range', Std.Legacy.Range.size, Nat.sub_zero, Nat.add_sub_cancel, Nat.div_one, List.range'_succ, List.range'_zero, List.forIn_cons, List.forIn_nil]
  go_simp
  by_cases h0 : x0 = y0
  case neg => simp [h0]
  by_cases h1 : x1 = y1
  case neg => simp [h0, h1]
  by_cases h2 : x2 = y2
  case neg => simp [h0, h1, h2]
  by_cases h3 : x3 = y3
  case neg => simp [h0, h1, h2, h3]
  by_cases h4 : x4 = y4
  case neg => simp [h0, h1, h2, h3, h4]
  by_cases h5 : x5 = y5
  case neg => simp [h0, h1, h2, h3, h4, h5]
  by_cases h6 : x6 = y6
  case neg => simp [h0, h1, h2, h3, h4, h5, h6]
  simp [h0, h1, h2, h3, h4, h5, h6]

set_option maxRecDepth 10000 in
set_option maxHeartbeats 4000000 in
theorem eqI (I J : Nat → Int) (w : World) : (Op.equalIn 10000 39 (.agg (insA I)) (.agg (insA J))).run Try.prog w = .ok (sameI I J) w := by
  have e := fun a b => eqInt 9998 a b w
  have ev := fun x0 x1 x2 x3 y0 y1 y2 y3 => eqVec 9997 x0 x1 x2 x3 y0 y1 y2 y3 w
  have ep := fun x0 x1 x2 x3 y0 y1 y2 y3 => eqPl 9997 x0 x1 x2 x3 y0 y1 y2 y3 w
  have hst : Try.prog.stoodInHeld 39 = false := by kernel_rfl
  have p0 : ∀ K : Nat → Int, (insA K)[0]? = some (.int .i64 (K 0)) := fun K => rfl
  have p1 : ∀ K : Nat → Int, (insA K)[1]? = some (.int .i64 (K 1)) := fun K => rfl
  have p2 : ∀ K : Nat → Int, (insA K)[2]? = some (.int .i64 (K 2)) := fun K => rfl
  have p3 : ∀ K : Nat → Int, (insA K)[3]? = some (.int .i64 (K 3)) := fun K => rfl
  have p4 : ∀ K : Nat → Int, (insA K)[4]? = some (.int .i64 (K 4)) := fun K => rfl
  have p5 : ∀ K : Nat → Int, (insA K)[5]? = some (.int .i64 (K 5)) := fun K => rfl
  have p6 : ∀ K : Nat → Int, (insA K)[6]? = some (.int .i64 (K 6)) := fun K => rfl
  have p7 : ∀ K : Nat → Int, (insA K)[7]? = some (.int .i64 (K 7)) := fun K => rfl
  unfold sameI
  rw [show (10000 : Nat) = 9999 + 1 from rfl, Op.equalIn]
  simp only [Sem.run_bind, run_underlying Try.underlying39, Result.andThen_ok]
  go_simp
  by_cases h0 : I 0 = J 0
  case neg => simp [h0]
  by_cases h1 : I 1 = J 1
  case neg => simp [h0, h1]
  by_cases h2 : I 2 = J 2
  case neg => simp [h0, h1, h2]
  by_cases h3 : I 3 = J 3
  case neg => simp [h0, h1, h2, h3]
  by_cases h4 : I 4 = J 4
  case neg => simp [h0, h1, h2, h3, h4]
  by_cases h5 : I 5 = J 5
  case neg => simp [h0, h1, h2, h3, h4, h5]
  by_cases h6 : I 6 = J 6
  case neg => simp [h0, h1, h2, h3, h4, h5, h6]
  by_cases h7 : I 7 = J 7
  case neg => simp [h0, h1, h2, h3, h4, h5, h6, h7]
  rw [if_pos h0, if_pos h1, if_pos h2, if_pos h3, if_pos h4, if_pos h5, if_pos h6, if_pos h7]
  have x8 : ∀ K, (insA K).extract 8 12 = #[.int .i32 (K 8), .int .i32 (K 9), .int .i32 (K 10), .int .i32 (K 11)] := fun K => rfl
  have x12 : ∀ K, (insA K).extract 12 16 = #[.int .i64 (K 12), .int .i64 (K 13), .int .i64 (K 14), .int .i64 (K 15)] := fun K => rfl
  simp only [show 9997 + 2 = 9999 from rfl] at ev ep
  simp only [x8, x12, ev, Result.andThen_ok]
  rw [h0, h1, h2, h3, h4, h5, h6, h7]
  simp only [beq_self_eq_true, Bool.true_and]
  cases (I 8 == J 8)
  · simp
  cases (I 9 == J 9)
  · simp
  cases (I 10 == J 10)
  · simp
  cases (I 11 == J 11)
  · simp
  simp only [Bool.true_and, Bool.true_eq_false, if_false, ep, Result.andThen_ok]
  cases (I 12 == J 12 && (I 13 == J 13 && (I 14 == J 14 && I 15 == J 15))) <;> simp

/-- '==' of two values of many cells, as one operation. -/
theorem exec_eq {P : Program} {w : World} (ρ : Operand → Value) (o : Oper) (x y : Operand) (t t' : TypeId) (xs ys : Array Value) (b : Bool) (ho : o.op = .binOp .eql t x y t') (hx : ρ x = .agg xs) (hy : ρ y = .agg ys)
    (hg : P.eqGuardType P.depth t = false) (he : (Op.equalIn 10000 t (.agg xs) (.agg ys)).run P w = .ok b w) : (execOp ρ o).run P w = .ok (.value (.bool b)) w := by
  simp [execOp, ho, hx, hy, eqGuard, binOp, Op.equal, Op.maxDepth, he, hg, Result.andThen]
theorem exec_ne {P : Program} {w : World} (ρ : Operand → Value) (o : Oper) (x y : Operand) (t t' : TypeId) (xs ys : Array Value) (b : Bool) (ho : o.op = .binOp .neq t x y t') (hx : ρ x = .agg xs) (hy : ρ y = .agg ys)
    (hg : P.eqGuardType P.depth t = false) (he : (Op.equalIn 10000 t (.agg xs) (.agg ys)).run P w = .ok b w) : (execOp ρ o).run P w = .ok (.value (.bool (!b))) w := by
  simp [execOp, ho, hx, hy, eqGuard, binOp, Op.equal, Op.maxDepth, he, hg, Result.andThen]
theorem grdI : Try.prog.eqGuardType Try.prog.depth 39 = false := by kernel_rfl
theorem grd7 : Try.prog.eqGuardType Try.prog.depth 52 = false := by kernel_rfl
end Go.Proofs.Ytfoffnbkfnbglaa
