/-
  Plain facts on whole roots, on powers of 2 digit by digit and on logarithms. Nothing here speaks of the program.
-/
import Derived.Test.YtlggecbbliihiabFxB
namespace Go.Proofs.Ytlggecbbliihiab
set_option linter.unusedVariables false

/-- r is the greatest whole number whose square is not above n. -/
def IsRoot (n r : Int) : Prop := 0 ≤ r ∧ r * r ≤ n ∧ n < (r + 1) * (r + 1)

theorem sq_le {a b : Int} (h0 : 0 ≤ a) (h : a ≤ b) : a * a ≤ b * b := Int.mul_le_mul h h h0 (by omega)
theorem sq_lt {a b : Int} (h0 : 0 ≤ a) (h : a < b) : a * a < b * b := by
  have h1 : (a + 1) * (a + 1) ≤ b * b := sq_le (by omega) (by omega)
  have h2 : (a + 1) * (a + 1) = a * a + a + a + 1 := by rw [Int.add_mul, Int.mul_add]; omega
  omega
theorem lt_of_sq {a b : Int} (h0 : 0 ≤ b) (h : a * a < b * b) : a < b := by
  rcases Int.lt_or_le a b with h1 | h1
  · exact h1
  · have := sq_le h0 h1
    omega
theorem le_of_sq {a b : Int} (h0 : 0 ≤ b) (h : a * a ≤ b * b) : a ≤ b := by
  rcases Int.lt_or_le b a with h1 | h1
  · have := sq_lt h0 h1
    omega
  · exact h1
theorem IsRoot.mono {n m a b : Int} (h : IsRoot n a) (k : IsRoot m b) (hn : n ≤ m) : a ≤ b := by
  have h1 := lt_of_sq (a := a) (b := b + 1) (by have := k.1; omega) (by have := h.2.1; have := k.2.2; omega)
  omega
theorem IsRoot.unique {n a b : Int} (h : IsRoot n a) (k : IsRoot n b) : a = b := by
  have h1 := h.mono k (Int.le_refl n)
  have h2 := k.mono h (Int.le_refl n)
  omega
theorem root_is : ∀ n : Nat, ∃ r, IsRoot n r
  | 0 => ⟨0, by unfold IsRoot; decide⟩
  | n + 1 => by
    obtain ⟨r, h0, h1, h2⟩ := root_is n
    by_cases h : (r + 1) * (r + 1) ≤ (n : Int) + 1
    · have h3 : (r + 1 + 1) * (r + 1 + 1) = (r + 1) * (r + 1) + (r + 1) + (r + 1) + 1 := by rw [Int.add_mul (r + 1) 1, Int.mul_add (r + 1)]; omega
      exact ⟨r + 1, by omega, by omega, by omega⟩
    · exact ⟨r, h0, by omega, by omega⟩
open Classical in
/-- The root. -/
noncomputable def rootI (n : Int) : Int := if h : ∃ r, IsRoot n r then Classical.choose h else 0
theorem rootI_spec {n : Int} (h : 0 ≤ n) : IsRoot n (rootI n) := by
  have h1 : ∃ r, IsRoot n r := by
    obtain ⟨r, hr⟩ := root_is n.toNat
    exact ⟨r, by rwa [show ((n.toNat : Nat) : Int) = n by omega] at hr⟩
  unfold rootI
  rw [dif_pos h1]
  exact Classical.choose_spec h1
theorem rootI_eq {n r : Int} (h : IsRoot n r) : rootI n = r := (rootI_spec (by have := h.2.1; have := Int.mul_nonneg h.1 h.1; omega)).unique h
theorem rootI_mono {n m : Int} (h0 : 0 ≤ n) (h : n ≤ m) : rootI n ≤ rootI m := (rootI_spec h0).mono (rootI_spec (by omega)) h
theorem rootI_nonneg {n : Int} (h0 : 0 ≤ n) : 0 ≤ rootI n := (rootI_spec h0).1
theorem rootI_u32 {n : Int} (h0 : 0 ≤ n) (h1 : n ≤ 18446744073709551615) : 0 ≤ rootI n ∧ rootI n ≤ 4294967295 := by
  have h := rootI_spec h0
  have h2 := lt_of_sq (a := rootI n) (b := 4294967296) (by omega) (by have := h.2.1; omega)
  exact ⟨h.1, by omega⟩

end Go.Proofs.Ytlggecbbliihiab
