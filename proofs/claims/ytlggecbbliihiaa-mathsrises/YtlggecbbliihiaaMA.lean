/-
  Plain facts on whole roots, on powers of 2 digit by digit and on logarithms. Nothing here speaks of the program.
-/
import Derived.Test.YtlggecbbliihiaaFxB
namespace Go.Proofs.Ytlggecbbliihiaa
set_option linter.unusedVariables false

/-- r is the greatest whole number whose square is not above n. -/
def IsRoot (n r : Int) : Prop := 0 ≤ r ∧ r * r ≤ n ∧ n < (r + 1) * (r + 1)

theorem sq_le {a b : Int} (h0 : 0 ≤ a) (h : a ≤ b) : a * a ≤ b * b := Int.mul_le_mul h h h0 (by omega)
theorem sq_lt {a b : Int} (h0 : 0 ≤ a) (h : a < b) : a * a < b * b := by
  have h1 : (a + 1) * (a + 1) ≤ b * b := sq_le (by omega) (by omega)
  have h2 : (a + 1) * (a + 1) = a * a + a + a + 1 := by rw [Int.add_mul, Int.mul_add]; omega
  omega
theorem lt_of_sq {a b : Int} (h0 : 0 ≤ b) (h : a * a < b * b) : a < b := by
  rcases Int.lt_or_le a b with h1 | h1
  · exact h1
  · have := sq_le h0 h1
    omega
theorem le_of_sq {a b : Int} (h0 : 0 ≤ b) (h : a * a ≤ b * b) : a ≤ b := by
  rcases Int.lt_or_le b a with h1 | h1
  · have := sq_lt h0 h1
    omega
  · exact h1
theorem IsRoot.mono {n m a b : Int} (h : IsRoot n a) (k : IsRoot m b) (hn : n ≤ m) : a ≤ b := by
  have h1 := lt_of_sq (a := a) (b := b + 1) (by have := k.1; omega) (by have := h.2.1; have := k.2.2; omega)
  omega
theorem IsRoot.unique {n a b : Int} (h : IsRoot n a) (k : IsRoot n b) : a = b := by
  have h1 := h.mono k (Int.le_refl n)
  have h2 := k.mono h (Int.le_refl n)
  omega
/-- The root's last k digits, behind r. -/
def digI (n : Int) : Nat → Int → Int
  | 0, r => r
  | k + 1, r => if (r + 2 ^ k) * (r + 2 ^ k) ≤ n then digI n k (r + 2 ^ k) else digI n k r
theorem digI_is (n : Int) : ∀ (k : Nat) (r : Int), 0 ≤ r → r * r ≤ n → n < (r + 2 ^ k) * (r + 2 ^ k) → IsRoot n (digI n k r)
  | 0, r, h0, h1, h2 => ⟨h0, h1, by show n < (r + 1) * (r + 1); simpa using h2⟩
  | k + 1, r, h0, h1, h2 => by
    have hp : (0 : Int) < 2 ^ k := Int.pow_pos (by decide)
    rw [show r + (2 : Int) ^ (k + 1) = r + 2 ^ k + 2 ^ k by rw [Int.pow_succ]; omega] at h2
    unfold digI
    split
    · exact digI_is n k (r + 2 ^ k) (by omega) (by assumption) h2
    · exact digI_is n k r h0 h1 (by omega)
/-- The root. -/
def rootI (n : Int) : Int := digI n n.toNat 0
theorem rootI_spec {n : Int} (h : 0 ≤ n) : IsRoot n (rootI n) := by
  refine digI_is n n.toNat 0 (by omega) (by omega) ?_
  have h1 : n.toNat < 2 ^ n.toNat := Nat.lt_two_pow_self
  have h2 : (2 : Int) ^ n.toNat = ((2 ^ n.toNat : Nat) : Int) := by rw [Int.natCast_pow]; rfl
  have h3 : n < (2 : Int) ^ n.toNat := by omega
  have h4 : (2 : Int) ^ n.toNat * 1 ≤ 2 ^ n.toNat * 2 ^ n.toNat := Int.mul_le_mul_of_nonneg_left (by omega) (by omega)
  rw [Int.zero_add]
  omega
theorem rootI_eq {n r : Int} (h : IsRoot n r) : rootI n = r := (rootI_spec (by have := h.2.1; have := Int.mul_nonneg h.1 h.1; omega)).unique h
theorem rootI_mono {n m : Int} (h0 : 0 ≤ n) (h : n ≤ m) : rootI n ≤ rootI m := (rootI_spec h0).mono (rootI_spec (by omega)) h
theorem rootI_nonneg {n : Int} (h0 : 0 ≤ n) : 0 ≤ rootI n := (rootI_spec h0).1
theorem rootI_u32 {n : Int} (h0 : 0 ≤ n) (h1 : n ≤ 18446744073709551615) : 0 ≤ rootI n ∧ rootI n ≤ 4294967295 := by
  have h := rootI_spec h0
  have h2 := lt_of_sq (a := rootI n) (b := 4294967296) (by omega) (by have := h.2.1; omega)
  exact ⟨h.1, by omega⟩

end Go.Proofs.Ytlggecbbliihiaa
