/-
  Vectors: Cross, Dot. What the dump lacks is left out.
-/
import Derived.Test.YtljffgmgnnjnaaaVD
namespace Go.Proofs.Ytljffgmgnnjnaaa
open Go.RowKit
set_option linter.unusedVariables false

/-- A product less another one. -/
def crossI (a b : Nat → Int) (i j : Nat) : Int := subI (mulI (a i) (b j)) (mulI (a j) (b i))

/-- The sum of the first k numbers of p, from the first one on. -/
def sumI (p : Nat → Int) : Nat → Int
  | 0 => 0
  | k + 1 => addI (sumI p k) (p k)

theorem sumI_i32 (p : Nat → Int) : ∀ k, I32 (sumI p k)
  | 0 => by unfold sumI I32; omega
  | k + 1 => addI_i32 _ _

theorem index4 (p : Nat → Int) (k : Nat) (hk : k < 4) (w : World) : (Instr.index 24 (.agg #[.int .i32 (p 0), .int .i32 (p 1), .int .i32 (p 2), .int .i32 (p 3)]) (.int .i64 k)).run Try.prog w = .ok (.int .i32 (p k)) w := by
  rcases (by omega : k = 0 ∨ k = 1 ∨ k = 2 ∨ k = 3) with rfl | rfl | rfl | rfl
  · have h : ∀ x0 x1 x2 x3 : Value, (Instr.index 24 (.agg #[x0, x1, x2, x3]) (.int .i64 0)).run Try.prog w = .ok x0 w := fun _ _ _ _ => by kernel_rfl
    exact h _ _ _ _
  · have h : ∀ x0 x1 x2 x3 : Value, (Instr.index 24 (.agg #[x0, x1, x2, x3]) (.int .i64 1)).run Try.prog w = .ok x1 w := fun _ _ _ _ => by kernel_rfl
    exact h _ _ _ _
  · have h : ∀ x0 x1 x2 x3 : Value, (Instr.index 24 (.agg #[x0, x1, x2, x3]) (.int .i64 2)).run Try.prog w = .ok x2 w := fun _ _ _ _ => by kernel_rfl
    exact h _ _ _ _
  · have h : ∀ x0 x1 x2 x3 : Value, (Instr.index 24 (.agg #[x0, x1, x2, x3]) (.int .i64 3)).run Try.prog w = .ok x3 w := fun _ _ _ _ => by kernel_rfl
    exact h _ _ _ _

set_option maxHeartbeats 1000000 in
theorem dot_any (n : Int) (a b : Nat → Int) (w : World) (h1 : 1 ≤ n) (h4 : n ≤ 4) (Ia : ∀ i, I32 (a i)) (Ib : ∀ i, I32 (b i)) :
    Calls Try.prog 9 #[.int .i64 n, .agg #[.int .i32 (a 0), .int .i32 (a 1), .int .i32 (a 2), .int .i32 (a 3)], .agg #[.int .i32 (b 0), .int .i32 (b 1), .int .i32 (b 2), .int .i32 (b 3)]] w fun e w' => e = .returned (.tuple #[.int .i32 (sumI (cut n (fun i => mulI (a i) (b i))) 4), .int .i64 0]) ∧ Ext w w' := by
  have HP : Hid (∀ i, I32 (cut n (fun i => mulI (a i) (b i)) i)) := cut_i32 (fun i => mulI_i32 _ _)
  generalize hp : cut n (fun i => mulI (a i) (b i)) = p at *
  have HE := hide hp
  clear hp
  go_enter Try.func9, Try.ntmps9
  go_wp2_with fail
  refine (two_any 2 n a b _ (by omega) (by omega) h1 h4 Ia Ib).mono ?_
  rintro e w1 ⟨rfl, hx⟩
  have X := hide ((((Ext.refl w).alloc _).alloc _).trans hx)
  clear hx
  rw [show (fun i => twoI 2 (a i) (b i)) = (fun i => mulI (a i) (b i)) from rfl, unhide HE]
  go_wp2
  go_loopw [10, 24] (fun s i wr => ∃ k : Nat, k ≤ 4 ∧ i = .int .i64 k ∧ s = .int .i32 (sumI p k) ∧ Ext w wr) (fun _ i _ => 4 - (intOf i).toNat)
  case atStart => exact ⟨0, by omega, rfl, rfl, (unhide X).alloc _⟩
  case round =>
    obtain ⟨k, hk, rfl, rfl, hx⟩ := hrel
    have X2 := hide hx
    clear hx X
    by_cases hlt : k < 4
    · have hi4 : (k : Int) < 4 := by omega
      have hix := index4 p k hlt
      go_wp2_with fail
      refine (add_any _ _ _ (sumI_i32 p k) (unhide HP k)).mono ?_
      rintro e w1 ⟨rfl, rfl⟩
      go_wp2
      go_roundw
      case rel => exact ⟨k + 1, by omega, by go_num, rfl, unhide X2⟩
      case measure => simp [intOf]; omega
    · obtain rfl : k = 4 := by omega
      go_wp2
      go_ret2
      exact ⟨rfl, unhide X2⟩

theorem dot_off (n : Int) (a b : Nat → Int) (w : World) (h : n < 1 ∨ 4 < n) :
    Calls Try.prog 9 #[.int .i64 n, .agg #[.int .i32 (a 0), .int .i32 (a 1), .int .i32 (a 2), .int .i32 (a 3)], .agg #[.int .i32 (b 0), .int .i32 (b 1), .int .i32 (b 2), .int .i32 (b 3)]] w fun e w' => e = .returned (.tuple #[.int .i32 0, .int .i64 2]) ∧ Ext w w' := by
  go_enter Try.func9, Try.ntmps9
  go_wp2_with fail
  refine (two_off 2 n a b _ (by omega) (by omega) h).mono ?_
  rintro e w1 ⟨rfl, hx⟩
  have X := hide ((((Ext.refl w).alloc _).alloc _).trans hx)
  clear hx
  go_wp2
  go_ret2
  exact ⟨rfl, (unhide X).alloc _⟩

/-- The vector of four numbers. -/
def v4 (x0 x1 x2 x3 : Int) (i : Nat) : Int := if i = 0 then x0 else if i = 1 then x1 else if i = 2 then x2 else if i = 3 then x3 else 0

theorem v4_i32 {x0 x1 x2 x3 : Int} (h0 : I32 x0) (h1 : I32 x1) (h2 : I32 x2) (h3 : I32 x3) (i : Nat) : I32 (v4 x0 x1 x2 x3 i) := by
  unfold v4
  split; exact h0
  split; exact h1
  split; exact h2
  split; exact h3
  unfold I32; omega

/-- What '==' says of two vectors. -/
theorem eqV (x0 x1 x2 x3 y0 y1 y2 y3 : Int) (w : World) : (Op.equalIn 10000 24 (.agg #[.int .i32 x0, .int .i32 x1, .int .i32 x2, .int .i32 x3]) (.agg #[.int .i32 y0, .int .i32 y1, .int .i32 y2, .int .i32 y3])).run Try.prog w = .ok (x0 == y0 && (x1 == y1 && (x2 == y2 && x3 == y3))) w := by
  have u3 := Try.underlying22
  have a3 := Try.isAgg22
  have z3 := Try.sizeOf22
  rw [show (10000 : Nat) = 9999 + 1 from rfl, Op.equalIn]
  simp only [Sem.run_bind, run_underlying Try.underlying24, Result.andThen_ok]
  simp only [Std.Legacy.Range.forIn_eq_forIn_range', Std.Legacy.Range.size, Nat.sub_zero, Nat.add_sub_cancel, Nat.div_one, List.range'_succ, List.range'_zero, List.forIn_cons, List.forIn_nil]
  go_simp
  by_cases h1 : x0 = y0 <;> by_cases h2 : x1 = y1 <;> by_cases h3 : x2 = y2 <;> by_cases h4 : x3 = y3 <;> simp [h1, h2, h3, h4]

end Go.Proofs.Ytljffgmgnnjnaaa
