/-
  The walks of fix's sums, products and quotients, each against one Lean function of the raws. What the dump lacks is left out.
-/
import Derived.Test.YtbhdloanlagddaaFxA
namespace Go.Proofs.Ytbhdloanlagddaa
open Go.RowKit
set_option linter.unusedSimpArgs false

def addI (a b : Int) : Int := rawI (a + b)
def subI (a b : Int) : Int := rawI (a - b)
def negI (a : Int) : Int := rawI (-a)
def absI (a : Int) : Int := rawI a.natAbs
def mulI (a b : Int) : Int := rawI ((a * b + 32768) / 65536)
/-- The nearest whole number to the quotient of the magnitudes. -/
def nearI (a b : Int) : Int := ((a.natAbs : Int) * 65536 + (b.natAbs : Int) / 2) / (b.natAbs : Int)
def overI (a : Int) : Int := if 0 < a then 2147483647 else if a < 0 then -2147483648 else 0
def divI (a b : Int) : Int := if b = 0 then overI a else rawI (if (decide (a < 0)) = (decide (b < 0)) then nearI a b else -nearI a b)
def floorI (a : Int) : Int := a / 65536 * 65536
def fractI (a : Int) : Int := subI a (floorI a)
def signI (a : Int) : Int := clampI a (-1) 1 * 65536
def modI (a b : Int) : Int := subI a (mulI b (floorI (divI a b)))

theorem mul_i32 {a b : Int} (ha : I32 a) (hb : I32 b) : -4611686018427387904 ≤ a * b ∧ a * b ≤ 4611686018427387904 := by
  unfold I32 at ha hb
  have h1 : (a * b).natAbs ≤ 2147483648 * 2147483648 := by rw [Int.natAbs_mul]; exact Nat.mul_le_mul (by omega) (by omega)
  omega
theorem near_bounds {a b : Int} (ha : I32 a) (hb : I32 b) (h0 : b ≠ 0) : 0 ≤ nearI a b ∧ nearI a b ≤ 140737488355328 := by
  unfold I32 at ha hb
  unfold nearI
  have hb1 : (1 : Int) ≤ (b.natAbs : Int) := by omega
  refine ⟨Int.ediv_nonneg (by omega) (by omega), ?_⟩
  have h2 : ((a.natAbs : Int) * 65536 + (b.natAbs : Int) / 2) / (b.natAbs : Int) < 140737488355329 := by
    refine Int.ediv_lt_of_lt_mul (by omega) ?_
    have : (140737488355329 : Int) * 1 ≤ 140737488355329 * (b.natAbs : Int) := by omega
    omega
  omega
theorem divI_i32 (a b : Int) : I32 (divI a b) := by
  unfold divI
  split
  · unfold overI I32; split; omega; split <;> omega
  · exact rawI_i32 _
theorem mulI_i32 (a b : Int) : I32 (mulI a b) := rawI_i32 _
theorem addI_i32 (a b : Int) : I32 (addI a b) := rawI_i32 _
theorem subI_i32 (a b : Int) : I32 (subI a b) := rawI_i32 _
theorem floorI_i32 {a : Int} (h : I32 a) : I32 (floorI a) := by unfold I32 at *; unfold floorI; omega

theorem add_any (a b : Int) (w : World) (ha : I32 a) (hb : I32 b) :
    Calls Try.prog 38 #[.int .i32 a, .int .i32 b] w fun e w' => e = .returned (.int .i32 (addI a b)) ∧ w' = w := by
  go_enter Try.func38, Try.ntmps38
  unfold I32 at ha hb
  go_wp2_with fail
  refine (raw_any _ _).mono ?_
  rintro e w1 ⟨rfl, rfl⟩
  go_wp2
  go_ret
  exact ⟨rfl, rfl⟩

theorem sub_any (a b : Int) (w : World) (ha : I32 a) (hb : I32 b) :
    Calls Try.prog 37 #[.int .i32 a, .int .i32 b] w fun e w' => e = .returned (.int .i32 (subI a b)) ∧ w' = w := by
  go_enter Try.func37, Try.ntmps37
  unfold I32 at ha hb
  go_wp2_with fail
  refine (raw_any _ _).mono ?_
  rintro e w1 ⟨rfl, rfl⟩
  go_wp2
  go_ret
  exact ⟨rfl, rfl⟩

theorem mul_any (a b : Int) (w : World) (ha : I32 a) (hb : I32 b) :
    Calls Try.prog 49 #[.int .i32 a, .int .i32 b] w fun e w' => e = .returned (.int .i32 (mulI a b)) ∧ w' = w := by
  go_enter Try.func49, Try.ntmps49
  unfold I32 at ha hb
  have hm := mul_i32 ha hb
  go_wp2_with fail
  refine (raw_any _ _).mono ?_
  rintro e w1 ⟨rfl, rfl⟩
  go_wp2
  go_ret
  exact ⟨rfl, rfl⟩

theorem overNothing_any (a : Int) (w : World) (ha : I32 a) :
    Calls Try.prog 62 #[.int .i32 a] w fun e w' => e = .returned (.int .i32 (overI a)) ∧ w' = w := by
  go_enter Try.func62, Try.ntmps62
  unfold I32 at ha
  unfold overI
  by_cases h1 : 0 < a
  · go_wp2
    go_ret
    exact ⟨by simp [h1], rfl⟩
  · by_cases h2 : a < 0
    · go_wp2
      go_ret
      exact ⟨by simp [h1, h2], rfl⟩
    · go_wp2
      go_ret
      exact ⟨by simp [h1, h2], rfl⟩

theorem div_any (a b : Int) (w : World) (ha : I32 a) (hb : I32 b) :
    Calls Try.prog 57 #[.int .i32 a, .int .i32 b] w fun e w' => e = .returned (.int .i32 (divI a b)) ∧ w' = w := by
  go_enter Try.func57, Try.ntmps57
  unfold I32 at ha hb
  by_cases h0 : b = 0
  · subst h0
    go_wp2_with fail
    refine (overNothing_any _ _ ha).mono ?_
    rintro e w1 ⟨rfl, rfl⟩
    go_wp2
    go_ret
    exact ⟨by simp [divI], rfl⟩
  · have hb0 : (b == 0) = false := by simpa using h0
    have hn := near_bounds ha hb h0
    go_wp2_with fail
    refine (magnitude_any _ _ ha).mono ?_
    rintro e w1 ⟨rfl, rfl⟩
    go_wp2_with fail
    refine (magnitude_any _ _ hb).mono ?_
    rintro e w1 ⟨rfl, rfl⟩
    go_wp2_with fail
    refine (nearest_any _ _ _ (by omega) (by omega) (by omega) (by omega)).mono ?_
    rintro e w1 ⟨rfl, rfl⟩
    rw [show ((a.natAbs : Int) * 65536 + (b.natAbs : Int) / 2) / (b.natAbs : Int) = nearI a b from rfl]
    by_cases h1 : a < 0
    · by_cases h2 : b < 0
      · have d1 : decide (a < 0) = true := by simp; omega
        have d2 : decide (b < 0) = true := by simp; omega
        go_wp2_with fail
        refine (raw_any _ _).mono ?_
        rintro e w1 ⟨rfl, rfl⟩
        go_wp2
        go_ret
        exact ⟨by simp [divI, h0, d1, d2], rfl⟩
      · have d1 : decide (a < 0) = true := by simp; omega
        have d2 : decide (b < 0) = false := by simp; omega
        go_wp2_with fail
        refine (raw_any _ _).mono ?_
        rintro e w1 ⟨rfl, rfl⟩
        go_wp2
        go_ret
        exact ⟨by simp [divI, h0, d1, d2], rfl⟩
    · by_cases h2 : b < 0
      · have d1 : decide (a < 0) = false := by simp; omega
        have d2 : decide (b < 0) = true := by simp; omega
        go_wp2_with fail
        refine (raw_any _ _).mono ?_
        rintro e w1 ⟨rfl, rfl⟩
        go_wp2
        go_ret
        exact ⟨by simp [divI, h0, d1, d2], rfl⟩
      · have d1 : decide (a < 0) = false := by simp; omega
        have d2 : decide (b < 0) = false := by simp; omega
        go_wp2_with fail
        refine (raw_any _ _).mono ?_
        rintro e w1 ⟨rfl, rfl⟩
        go_wp2
        go_ret
        exact ⟨by simp [divI, h0, d1, d2], rfl⟩

theorem clamp_any (a b c : Int) (w : World) :
    Calls Try.prog 59 #[.int .i32 a, .int .i32 b, .int .i32 c] w fun e w' => e = .returned (.int .i32 (clampI a b c)) ∧ w' = w := by
  go_enter Try.func59, Try.ntmps59
  go_wp2_with fail
  refine (within32_any _ _ _ _).mono ?_
  rintro e w1 ⟨rfl, rfl⟩
  go_wp2
  go_ret
  exact ⟨rfl, rfl⟩

end Go.Proofs.Ytbhdloanlagddaa
