/-
  The walks of the document's answer for numbers, each against the same Lean functions. What the dump lacks is left out.
-/
import Derived.Test.YtbhdloanlagddaaFxB
namespace Go.Proofs.Ytbhdloanlagddaa
open Go.RowKit
set_option linter.unusedSimpArgs false
set_option linter.unusedVariables false

theorem refRaw_any (n : Int) (w : World) (h : I64 n) :
    Calls Try.prog 54 #[.int .i64 n] w fun e w' => e = .returned (.int .i32 (rawI n)) ∧ w' = w := by
  go_enter Try.func54, Try.ntmps54
  unfold I64 at h
  go_wp2
  all_goals go_ret
  all_goals refine ⟨?_, rfl⟩
  all_goals simp [rawI, clampI]
  all_goals omega

theorem down_any (n : Int) (w : World) (h : -4611686018427387904 ≤ n ∧ n ≤ 4611686018460942336) :
    Calls Try.prog 56 #[.int .i64 n, .int .i64 65536] w fun e w' => e = .returned (.int .i64 (n / 65536)) ∧ w' = w := by
  go_enter Try.func56, Try.ntmps56
  have h2 : 65536 * n.tdiv 65536 + n.tmod 65536 = n := Int.mul_tdiv_add_tmod n 65536
  have h3 : n.tmod 65536 < 65536 := Int.tmod_lt_of_pos n (by omega)
  have h4 : -65536 < n.tmod 65536 := Int.lt_tmod_of_pos n (by omega)
  have hq : -140737488355328 ≤ n.tdiv 65536 ∧ n.tdiv 65536 ≤ 140737488355328 := by omega
  have H2 := hide h2
  clear h2
  go_wp2
  all_goals go_ret
  all_goals refine ⟨?_, rfl⟩
  all_goals have h2 := unhide H2
  all_goals simp
  all_goals omega

theorem refAdd_any (a b : Int) (w : World) (ha : I32 a) (hb : I32 b) :
    Calls Try.prog 40 #[.int .i32 a, .int .i32 b] w fun e w' => e = .returned (.int .i32 (addI a b)) ∧ w' = w := by
  go_enter Try.func40, Try.ntmps40
  unfold I32 at ha hb
  go_wp2_with fail
  refine (refRaw_any _ _ (by unfold I64; omega)).mono ?_
  rintro e w1 ⟨rfl, rfl⟩
  go_wp2
  go_ret
  exact ⟨rfl, rfl⟩

theorem refSub_any (a b : Int) (w : World) (ha : I32 a) (hb : I32 b) :
    Calls Try.prog 39 #[.int .i32 a, .int .i32 b] w fun e w' => e = .returned (.int .i32 (subI a b)) ∧ w' = w := by
  go_enter Try.func39, Try.ntmps39
  unfold I32 at ha hb
  go_wp2_with fail
  refine (refRaw_any _ _ (by unfold I64; omega)).mono ?_
  rintro e w1 ⟨rfl, rfl⟩
  go_wp2
  go_ret
  exact ⟨rfl, rfl⟩

theorem refMul_any (a b : Int) (w : World) (ha : I32 a) (hb : I32 b) :
    Calls Try.prog 44 #[.int .i32 a, .int .i32 b] w fun e w' => e = .returned (.int .i32 (mulI a b)) ∧ w' = w := by
  go_enter Try.func44, Try.ntmps44
  unfold I32 at ha hb
  have hm := mul_i32 ha hb
  go_wp2_with fail
  refine (down_any _ _ (by omega)).mono ?_
  rintro e w1 ⟨rfl, rfl⟩
  go_wp2_with fail
  refine (refRaw_any _ _ (by unfold I64; omega)).mono ?_
  rintro e w1 ⟨rfl, rfl⟩
  go_wp2
  go_ret
  exact ⟨rfl, rfl⟩

theorem quo_up {n d : Int} (hn : 0 ≤ n) (hd : 0 < d) : (n + d / 2) / d = if d ≤ 2 * (n % d) then n / d + 1 else n / d := by
  have h1 : d * (n / d) + n % d = n := Int.mul_ediv_add_emod n d
  have h2 := Int.emod_lt_of_pos n hd
  have h3 := Int.emod_nonneg n (by omega : d ≠ 0)
  generalize n / d = q at *
  generalize n % d = r at *
  have e : n + d / 2 = (r + d / 2) + d * q := by omega
  rw [e, Int.add_mul_ediv_left _ _ (by omega)]
  split
  · have : (r + d / 2) / d = 1 := by
      have h : r + d / 2 = (r + d / 2 - d) + d * 1 := by omega
      rw [h, Int.add_mul_ediv_left _ _ (by omega), Int.ediv_eq_zero_of_lt (by omega) (by omega)]
      omega
    omega
  · have : (r + d / 2) / d = 0 := Int.ediv_eq_zero_of_lt (by omega) (by omega)
    omega

/-- The quotient of 2^16 x by y, a half rounded up. -/
def upQ (x y : Int) : Int := if y ≤ 2 * (x * 65536 % y) then x * 65536 / y + 1 else x * 65536 / y
theorem upQ_parts (x y : Int) (hx : 0 ≤ x ∧ x ≤ 2147483648) (hy : 0 < y) : 0 ≤ x * 65536 / y ∧ x * 65536 / y ≤ 140737488355328 ∧ 0 ≤ x * 65536 % y ∧ x * 65536 % y < y := by
  refine ⟨Int.ediv_nonneg (by omega) (by omega), ?_, Int.emod_nonneg _ (by omega), Int.emod_lt_of_pos _ hy⟩
  have : x * 65536 / y < 140737488355329 := by
    refine Int.ediv_lt_of_lt_mul (by omega) ?_
    have : (140737488355329 : Int) * 1 ≤ 140737488355329 * y := by omega
    omega
  omega
theorem near_upQ (a b : Int) (h : b ≠ 0) : nearI a b = upQ a.natAbs b.natAbs := by
  unfold nearI upQ
  rw [quo_up (by omega) (by omega)]

set_option maxHeartbeats 1000000 in
theorem refDiv_pp (x y : Int) (w : World) (hx : 0 ≤ x ∧ x ≤ 2147483648) (hy : 0 < y ∧ y ≤ 2147483648) :
    Calls Try.prog 51 #[.int .i32 x, .int .i32 y] w fun e w' => e = .returned (.int .i32 (rawI (upQ x y))) ∧ w' = w := by
  have hq := upQ_parts x y (by omega) hy.1
  have hu : Hid (upQ x y = if y ≤ 2 * (x * 65536 % y) then x * 65536 / y + 1 else x * 65536 / y) := rfl
  have hb0 : (y == 0) = false := by simp; omega
  have hz : (y == 0) = false := by simp; omega
  have dx : decide (x * 65536 < 0) = false := by simp; omega
  have dy : decide (y < 0) = false := by simp; omega
  go_enter Try.func51, Try.ntmps51
  by_cases h2 : y ≤ 2 * (x * 65536 % y)
  · have e : upQ x y = x * 65536 / y + 1 := by rw [unhide hu, if_pos h2]
    have HE := hide e
    clear e
    go_wp2_with fail
    refine (refRaw_any _ _ (by unfold I64; omega)).mono ?_
    rintro e w1 ⟨rfl, rfl⟩
    go_wp2
    go_ret
    refine ⟨?_, rfl⟩
    rw [unhide HE]
    first | rfl | (simp; done) | (simp only [Ending.returned.injEq, Value.int.injEq, true_and]; simp; congr 1; omega)
  · have e : upQ x y = x * 65536 / y := by rw [unhide hu, if_neg h2]
    have HE := hide e
    clear e
    go_wp2_with fail
    refine (refRaw_any _ _ (by unfold I64; omega)).mono ?_
    rintro e w1 ⟨rfl, rfl⟩
    go_wp2
    go_ret
    refine ⟨?_, rfl⟩
    rw [unhide HE]
    first | rfl | (simp; done) | (simp only [Ending.returned.injEq, Value.int.injEq, true_and]; simp; congr 1; omega)

set_option maxHeartbeats 1000000 in
theorem refDiv_pn (x y : Int) (w : World) (hx : 0 ≤ x ∧ x ≤ 2147483648) (hy : 0 < y ∧ y ≤ 2147483648) :
    Calls Try.prog 51 #[.int .i32 x, .int .i32 (-y)] w fun e w' => e = .returned (.int .i32 (rawI (-upQ x y))) ∧ w' = w := by
  have hq := upQ_parts x y (by omega) hy.1
  have hu : Hid (upQ x y = if y ≤ 2 * (x * 65536 % y) then x * 65536 / y + 1 else x * 65536 / y) := rfl
  have hb0 : ((-y) == 0) = false := by simp; omega
  have hz : (y == 0) = false := by simp; omega
  have dx : decide (x * 65536 < 0) = false := by simp; omega
  have dy : decide (-y < 0) = true := by simp; omega
  go_enter Try.func51, Try.ntmps51
  by_cases h2 : y ≤ 2 * (x * 65536 % y)
  · have e : upQ x y = x * 65536 / y + 1 := by rw [unhide hu, if_pos h2]
    have HE := hide e
    clear e
    go_wp2_with fail
    refine (refRaw_any _ _ (by unfold I64; omega)).mono ?_
    rintro e w1 ⟨rfl, rfl⟩
    go_wp2
    go_ret
    refine ⟨?_, rfl⟩
    rw [unhide HE]
    first | rfl | (simp; done) | (simp only [Ending.returned.injEq, Value.int.injEq, true_and]; simp; congr 1; omega)
  · have e : upQ x y = x * 65536 / y := by rw [unhide hu, if_neg h2]
    have HE := hide e
    clear e
    go_wp2_with fail
    refine (refRaw_any _ _ (by unfold I64; omega)).mono ?_
    rintro e w1 ⟨rfl, rfl⟩
    go_wp2
    go_ret
    refine ⟨?_, rfl⟩
    rw [unhide HE]
    first | rfl | (simp; done) | (simp only [Ending.returned.injEq, Value.int.injEq, true_and]; simp; congr 1; omega)

set_option maxHeartbeats 1000000 in
theorem refDiv_np (x y : Int) (w : World) (hx : 0 < x ∧ x ≤ 2147483648) (hy : 0 < y ∧ y ≤ 2147483648) :
    Calls Try.prog 51 #[.int .i32 (-x), .int .i32 y] w fun e w' => e = .returned (.int .i32 (rawI (-upQ x y))) ∧ w' = w := by
  have hq := upQ_parts x y (by omega) hy.1
  have hu : Hid (upQ x y = if y ≤ 2 * (x * 65536 % y) then x * 65536 / y + 1 else x * 65536 / y) := rfl
  have hb0 : (y == 0) = false := by simp; omega
  have hz : (y == 0) = false := by simp; omega
  have dx : decide (-(x * 65536) < 0) = true := by simp; omega
  have dy : decide (y < 0) = false := by simp; omega
  have dx2 : decide (-x * 65536 < 0) = true := by simp; omega
  have t1 : (-x * 65536).tdiv y = -(x * 65536 / y) := by rw [Int.neg_mul, Int.neg_tdiv, Int.tdiv_eq_ediv_of_nonneg (by omega)]
  have t2 : (-x * 65536).tmod y = -(x * 65536 % y) := by rw [Int.neg_mul, Int.neg_tmod, Int.tmod_eq_emod_of_nonneg (by omega)]
  go_enter Try.func51, Try.ntmps51
  by_cases h2 : y ≤ 2 * (x * 65536 % y)
  · have e : upQ x y = x * 65536 / y + 1 := by rw [unhide hu, if_pos h2]
    have HE := hide e
    clear e
    go_wp2_with fail
    refine (refRaw_any _ _ (by unfold I64; omega)).mono ?_
    rintro e w1 ⟨rfl, rfl⟩
    go_wp2
    go_ret
    refine ⟨?_, rfl⟩
    rw [unhide HE]
    first | rfl | (simp; done) | (simp only [Ending.returned.injEq, Value.int.injEq, true_and]; simp; congr 1; omega)
  · have e : upQ x y = x * 65536 / y := by rw [unhide hu, if_neg h2]
    have HE := hide e
    clear e
    go_wp2_with fail
    refine (refRaw_any _ _ (by unfold I64; omega)).mono ?_
    rintro e w1 ⟨rfl, rfl⟩
    go_wp2
    go_ret
    refine ⟨?_, rfl⟩
    rw [unhide HE]
    first | rfl | (simp; done) | (simp only [Ending.returned.injEq, Value.int.injEq, true_and]; simp; congr 1; omega)

set_option maxHeartbeats 1000000 in
theorem refDiv_nn (x y : Int) (w : World) (hx : 0 < x ∧ x ≤ 2147483648) (hy : 0 < y ∧ y ≤ 2147483648) :
    Calls Try.prog 51 #[.int .i32 (-x), .int .i32 (-y)] w fun e w' => e = .returned (.int .i32 (rawI (upQ x y))) ∧ w' = w := by
  have hq := upQ_parts x y (by omega) hy.1
  have hu : Hid (upQ x y = if y ≤ 2 * (x * 65536 % y) then x * 65536 / y + 1 else x * 65536 / y) := rfl
  have hb0 : ((-y) == 0) = false := by simp; omega
  have hz : (y == 0) = false := by simp; omega
  have dx : decide (-(x * 65536) < 0) = true := by simp; omega
  have dy : decide (-y < 0) = true := by simp; omega
  have dx2 : decide (-x * 65536 < 0) = true := by simp; omega
  have t1 : (-x * 65536).tdiv y = -(x * 65536 / y) := by rw [Int.neg_mul, Int.neg_tdiv, Int.tdiv_eq_ediv_of_nonneg (by omega)]
  have t2 : (-x * 65536).tmod y = -(x * 65536 % y) := by rw [Int.neg_mul, Int.neg_tmod, Int.tmod_eq_emod_of_nonneg (by omega)]
  go_enter Try.func51, Try.ntmps51
  by_cases h2 : y ≤ 2 * (x * 65536 % y)
  · have e : upQ x y = x * 65536 / y + 1 := by rw [unhide hu, if_pos h2]
    have HE := hide e
    clear e
    go_wp2_with fail
    refine (refRaw_any _ _ (by unfold I64; omega)).mono ?_
    rintro e w1 ⟨rfl, rfl⟩
    go_wp2
    go_ret
    refine ⟨?_, rfl⟩
    rw [unhide HE]
    first | rfl | (simp; done) | (simp only [Ending.returned.injEq, Value.int.injEq, true_and]; simp; congr 1; omega)
  · have e : upQ x y = x * 65536 / y := by rw [unhide hu, if_neg h2]
    have HE := hide e
    clear e
    go_wp2_with fail
    refine (refRaw_any _ _ (by unfold I64; omega)).mono ?_
    rintro e w1 ⟨rfl, rfl⟩
    go_wp2
    go_ret
    refine ⟨?_, rfl⟩
    rw [unhide HE]
    first | rfl | (simp; done) | (simp only [Ending.returned.injEq, Value.int.injEq, true_and]; simp; congr 1; omega)

theorem refDiv_any (a b : Int) (w : World) (ha : I32 a) (hb : I32 b) :
    Calls Try.prog 51 #[.int .i32 a, .int .i32 b] w fun e w' => e = .returned (.int .i32 (divI a b)) ∧ w' = w := by
  unfold I32 at ha hb
  by_cases h0 : b = 0
  · subst h0
    go_enter Try.func51, Try.ntmps51
    go_wp2
    all_goals go_ret
    all_goals refine ⟨?_, rfl⟩
    all_goals simp [divI, overI]
    all_goals omega
  · have hd : divI a b = rawI (if (decide (a < 0)) = (decide (b < 0)) then upQ a.natAbs b.natAbs else -upQ a.natAbs b.natAbs) := by
      simp only [divI, h0, if_false, near_upQ a b h0]
    rw [hd]
    by_cases h1 : a < 0 <;> by_cases h2 : b < 0
    · have h := refDiv_nn (-a) (-b) w (by omega) (by omega)
      rw [show (a.natAbs : Int) = -a by omega, show (b.natAbs : Int) = -b by omega]
      simpa [h1, h2] using h
    · have h := refDiv_np (-a) b w (by omega) (by omega)
      rw [show (a.natAbs : Int) = -a by omega, show (b.natAbs : Int) = b by omega]
      simpa [h1, h2] using h
    · have h := refDiv_pn a (-b) w (by omega) (by omega)
      rw [show (a.natAbs : Int) = a by omega, show (b.natAbs : Int) = -b by omega]
      simpa [h1, h2] using h
    · have h := refDiv_pp a b w (by omega) (by omega)
      rw [show (a.natAbs : Int) = a by omega, show (b.natAbs : Int) = b by omega]
      simpa [h1, h2] using h

theorem refFloor_any (a : Int) (w : World) (ha : I32 a) :
    Calls Try.prog 70 #[.int .i32 a] w fun e w' => e = .returned (.int .i32 (floorI a)) ∧ w' = w := by
  go_enter Try.func70, Try.ntmps70
  unfold I32 at ha
  go_wp2_with fail
  refine (down_any _ _ (by omega)).mono ?_
  rintro e w1 ⟨rfl, rfl⟩
  go_wp2_with fail
  refine (refRaw_any _ _ (by unfold I64; omega)).mono ?_
  rintro e w1 ⟨rfl, rfl⟩
  have hn : rawI (a / 65536 * 65536) = floorI a := rawI_id (by unfold I32; omega)
  rw [hn]
  go_wp2
  go_ret
  exact ⟨rfl, rfl⟩

end Go.Proofs.Ytbhdloanlagddaa
