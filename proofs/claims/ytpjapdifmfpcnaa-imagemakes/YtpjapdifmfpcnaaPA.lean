/-
  Pixels: the bits of a number, the number of bits (numbers alone), and the walks of the program's full, isWidth, bitsOf, numberOf, Bits, Number, and of the document's power, Bits, Number. What the dump lacks is left out.
-/
import Derived.Test.YtpjapdifmfpcnaaFxB
import Derived.Test.YtpjapdifmfpcnaaNum
import Derived.BigQuiet
namespace Go.Proofs.Ytpjapdifmfpcnaa
open Go.RowKit

/-- All of k bits set. -/
def fullI (k : Nat) : Int := 2 ^ k - 1
/-- The bits of the number of raw x, k of them. -/
def bitsI (x : Int) (k : Nat) : Int := (clampI x 0 65536 * fullI k + 32768) / 65536
/-- The number of the bits x. -/
def numI (x : Int) (k : Nat) : Int := (x * 65536 + fullI k / 2) / fullI k

theorem full_pos {k : Nat} (h1 : 1 ≤ k) (h2 : k ≤ 16) : 1 ≤ fullI k ∧ fullI k ≤ 65535 := by
  unfold fullI
  have a : 2 ^ 1 ≤ 2 ^ k := Nat.pow_le_pow_right (by decide) h1
  have b : 2 ^ k ≤ 2 ^ 16 := Nat.pow_le_pow_right (by decide) h2
  have e : (2 : Int) ^ k = ((2 ^ k : Nat) : Int) := by simp
  omega
theorem full_nonneg {k : Nat} (h2 : k ≤ 16) : 0 ≤ fullI k ∧ fullI k ≤ 65535 := by
  by_cases h : 1 ≤ k
  · have := full_pos h h2; omega
  · obtain rfl : k = 0 := by omega
    decide

theorem clamp_mul {x m : Int} (h0 : 0 ≤ m) : 0 ≤ clampI x 0 65536 * m ∧ clampI x 0 65536 * m ≤ 65536 * m := by
  have a : 0 ≤ clampI x 0 65536 := by unfold clampI; omega
  have b : clampI x 0 65536 ≤ 65536 := by unfold clampI; omega
  exact ⟨Int.mul_nonneg a h0, Int.mul_le_mul_of_nonneg_right b h0⟩

theorem bits_bound {k : Nat} (x : Int) (h2 : k ≤ 16) : 0 ≤ bitsI x k ∧ bitsI x k ≤ fullI k := by
  have h := full_nonneg h2
  have c := clamp_mul (x := x) h.1
  unfold bitsI
  omega

theorem num_bound {x : Int} {k : Nat} (h1 : 1 ≤ k) (h2 : k ≤ 16) (h0 : 0 ≤ x) (hx : x ≤ fullI k) : 0 ≤ numI x k ∧ numI x k ≤ 65536 := by
  have h := full_pos h1 h2
  unfold numI
  generalize fullI k = m at *
  refine ⟨Int.ediv_nonneg (by omega) (by omega), ?_⟩
  have : (x * 65536 + m / 2) / m < 65537 := Int.ediv_lt_of_lt_mul (by omega) (by omega)
  omega

/-- The bits of the number of bits are these. -/
theorem bits_num {x : Int} {k : Nat} (h1 : 1 ≤ k) (h2 : k ≤ 16) (h0 : 0 ≤ x) (hx : x ≤ fullI k) : bitsI (numI x k) k = x := by
  have h := full_pos h1 h2
  have b := num_bound h1 h2 h0 hx
  have e : clampI (numI x k) 0 65536 = numI x k := by unfold clampI; omega
  unfold bitsI
  rw [e]
  unfold numI at *
  generalize fullI k = m at *
  have d1 := Int.mul_ediv_add_emod (x * 65536 + m / 2) m
  have d2 := Int.emod_nonneg (x * 65536 + m / 2) (show m ≠ 0 by omega)
  have d3 := Int.emod_lt_of_pos (x * 65536 + m / 2) (show 0 < m by omega)
  rw [Int.mul_comm] at d1
  generalize (x * 65536 + m / 2) / m * m = q at *
  omega

theorem bits_rise {x y : Int} {k : Nat} (h2 : k ≤ 16) (h : x ≤ y) : bitsI x k ≤ bitsI y k := by
  have m := full_nonneg h2
  unfold bitsI
  have c : clampI x 0 65536 ≤ clampI y 0 65536 := by unfold clampI; omega
  have := Int.mul_le_mul_of_nonneg_right c m.1
  omega
theorem bits_zero (k : Nat) : bitsI 0 k = 0 := by
  have e : clampI 0 0 65536 = 0 := by decide
  unfold bitsI
  rw [e]
  omega
theorem bits_one (k : Nat) : bitsI 65536 k = fullI k := by
  have e : clampI 65536 0 65536 = 65536 := by decide
  unfold bitsI
  rw [e]
  omega

theorem pow_mod (k : Nat) (h : k ≤ 16) : (2 : Int) ^ k % 4294967296 = 2 ^ k := by
  have b : 2 ^ k ≤ 2 ^ 16 := Nat.pow_le_pow_right (by decide) h
  have e : (2 : Int) ^ k = ((2 ^ k : Nat) : Int) := by simp
  have p : 0 < 2 ^ k := Nat.pow_pos (by decide)
  omega

theorem full_succ (k : Nat) : fullI (k + 1) + 1 = (fullI k + 1) * 2 := by
  unfold fullI
  rw [Int.pow_succ]
  omega

/-- How many bytes a pixel of format f has. -/
def sizI (f : Int) : Int := if f = 1 then 4 else if f = 5 ∨ f = 6 then 1 else if 2 ≤ f ∧ f ≤ 7 then 2 else 0

end Go.Proofs.Ytpjapdifmfpcnaa
