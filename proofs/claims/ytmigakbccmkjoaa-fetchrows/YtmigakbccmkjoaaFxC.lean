/-
  The walks of the document's answer for numbers, each against the same Lean functions. What the dump lacks is left out.
-/
import Derived.Test.YtmigakbccmkjoaaFxB
namespace Go.Proofs.Ytmigakbccmkjoaa
open Go.RowKit
set_option linter.unusedSimpArgs false
set_option linter.unusedVariables false

theorem refRaw_any (n : Int) (w : World) (h : I64 n) :
    Calls Try.prog 48 #[.int .i64 n] w fun e w' => e = .returned (.int .i32 (rawI n)) ∧ w' = w := by
  go_enter Try.func48, Try.ntmps48
  unfold I64 at h
  go_wp2
  all_goals go_ret
  all_goals refine ⟨?_, rfl⟩
  all_goals simp [rawI, clampI]
  all_goals omega

theorem refOf_any (n : Int) (w : World) (h : I64 n) :
    Calls Try.prog 28 #[.int .i64 n] w fun e w' => e = .returned (.int .i32 (rawI (65536 * n))) ∧ w' = w := by
  go_enter Try.func28, Try.ntmps28
  unfold I64 at h
  by_cases h1 : 40000 < n
  · go_wp2
    go_ret
    refine ⟨?_, rfl⟩
    simp [rawI, clampI]
    omega
  · by_cases h2 : n < -40000
    · go_wp2
      go_ret
      refine ⟨?_, rfl⟩
      simp [rawI, clampI]
      omega
    · go_wp2_with fail
      refine (refRaw_any _ _ (by unfold I64; omega)).mono ?_
      rintro e w1 ⟨rfl, rfl⟩
      go_wp2
      go_ret
      exact ⟨by simp [Int.mul_comm], rfl⟩

theorem quo_up {n d : Int} (hn : 0 ≤ n) (hd : 0 < d) : (n + d / 2) / d = if d ≤ 2 * (n % d) then n / d + 1 else n / d := by
  have h1 : d * (n / d) + n % d = n := Int.mul_ediv_add_emod n d
  have h2 := Int.emod_lt_of_pos n hd
  have h3 := Int.emod_nonneg n (by omega : d ≠ 0)
  generalize n / d = q at *
  generalize n % d = r at *
  have e : n + d / 2 = (r + d / 2) + d * q := by omega
  rw [e, Int.add_mul_ediv_left _ _ (by omega)]
  split
  · have : (r + d / 2) / d = 1 := by
      have h : r + d / 2 = (r + d / 2 - d) + d * 1 := by omega
      rw [h, Int.add_mul_ediv_left _ _ (by omega), Int.ediv_eq_zero_of_lt (by omega) (by omega)]
      omega
    omega
  · have : (r + d / 2) / d = 0 := Int.ediv_eq_zero_of_lt (by omega) (by omega)
    omega

/-- The quotient of 2^16 x by y, a half rounded up. -/
def upQ (x y : Int) : Int := if y ≤ 2 * (x * 65536 % y) then x * 65536 / y + 1 else x * 65536 / y
theorem upQ_parts (x y : Int) (hx : 0 ≤ x ∧ x ≤ 2147483648) (hy : 0 < y) : 0 ≤ x * 65536 / y ∧ x * 65536 / y ≤ 140737488355328 ∧ 0 ≤ x * 65536 % y ∧ x * 65536 % y < y := by
  refine ⟨Int.ediv_nonneg (by omega) (by omega), ?_, Int.emod_nonneg _ (by omega), Int.emod_lt_of_pos _ hy⟩
  have : x * 65536 / y < 140737488355329 := by
    refine Int.ediv_lt_of_lt_mul (by omega) ?_
    have : (140737488355329 : Int) * 1 ≤ 140737488355329 * y := by omega
    omega
  omega
theorem near_upQ (a b : Int) (h : b ≠ 0) : nearI a b = upQ a.natAbs b.natAbs := by
  unfold nearI upQ
  rw [quo_up (by omega) (by omega)]

end Go.Proofs.Ytmigakbccmkjoaa
