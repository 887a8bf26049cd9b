/-
  The walks of the document's lengths. What the dump lacks is left out.
-/
import Derived.Test.YtlggecbbliihiabMN
namespace Go.Proofs.Ytlggecbbliihiab
open Go.RowKit
set_option linter.unusedVariables false
set_option linter.unusedSimpArgs false

/-- The sum of the squares of the first k numbers. -/
def sqS (a : Nat → Int) : Nat → Int
  | 0 => 0
  | k + 1 => sqS a k + a k * a k
theorem sqS_up {a : Nat → Int} (h : ∀ i, I32 (a i)) (k : Nat) : sqS a k ≤ sqS a (k + 1) := by
  have := (sq_i32 (h k)).1
  show sqS a k ≤ sqS a k + a k * a k
  omega
theorem sqS_mono {a : Nat → Int} (h : ∀ i, I32 (a i)) (k d : Nat) : sqS a k ≤ sqS a (k + d) := by
  induction d with
  | zero => exact Int.le_refl _
  | succ d ih => exact Int.le_trans ih (sqS_up h (k + d))
theorem sqS_nonneg {a : Nat → Int} (h : ∀ i, I32 (a i)) (k : Nat) : 0 ≤ sqS a k := by
  have := sqS_mono h 0 k
  rw [Nat.zero_add] at this
  exact this
theorem lsI_eq {a : Nat → Int} (h : ∀ i, I32 (a i)) : ∀ k, lsI a k = min (sqS a k) 4611686018427387904
  | 0 => by simp [lsI, sqS]; omega
  | k + 1 => by
    have ih := lsI_eq h k
    have h0 := (sq_i32 (h k)).1
    show min (lsI a k + a k * a k) 4611686018427387904 = min (sqS a k + a k * a k) 4611686018427387904
    rw [ih]
    omega
theorem root_most : rawI (rootI 4611686018427387904) = 2147483647 := by
  rw [rootI_eq (r := 2147483648) (by unfold IsRoot; decide)]
  decide
/-- A sum that is too great. -/
theorem length_most {a : Nat → Int} {n : Int} {k : Nat} (h : ∀ i, I32 (a i)) (hk : (k : Int) ≤ cntI n) (hs : 4611686018427387904 ≤ sqS a k) : lengthI a n = 2147483647 := by
  unfold lengthI
  obtain ⟨d, hd⟩ : ∃ d, (cntI n).toNat = k + d := ⟨(cntI n).toNat - k, by omega⟩
  have h1 := sqS_mono h k d
  rw [hd, lsI_eq h, show min (sqS a (k + d)) 4611686018427387904 = 4611686018427387904 by omega]
  exact root_most
theorem length_sum {a : Nat → Int} {n : Int} {k : Nat} (h : ∀ i, I32 (a i)) (hk : (k : Int) = cntI n) (hs : sqS a k < 4611686018427387904) : lengthI a n = rawI (rootI (sqS a k)) := by
  unfold lengthI
  rw [show (cntI n).toNat = k by omega, lsI_eq h, show min (sqS a k) 4611686018427387904 = sqS a k by omega]
/-- A vector of length 0 is 0. -/
theorem sq_zero {x : Int} (h : x * x ≤ 0) : x = 0 := by
  rcases (by omega : x = 0 ∨ 1 ≤ x ∨ x ≤ -1) with h1 | h1 | h1
  · exact h1
  · have := Int.mul_le_mul h1 h1 (by omega) (by omega); omega
  · have := Int.mul_le_mul (show (1 : Int) ≤ -x by omega) (show (1 : Int) ≤ -x by omega) (by omega) (by omega)
    rw [Int.neg_mul_neg] at this
    omega
theorem sqS_zero {a : Nat → Int} (h : ∀ i, I32 (a i)) : ∀ k, sqS a k ≤ 0 → ∀ i, i < k → a i = 0
  | 0, _, i, hi => by omega
  | k + 1, hs, i, hi => by
    have h0 := (sq_i32 (h k)).1
    have h1 : sqS a k + a k * a k ≤ 0 := hs
    have h2 := sqS_nonneg h k
    rcases (by omega : i < k ∨ i = k) with h3 | h3
    · exact sqS_zero h k (by omega) i h3
    · subst h3
      exact sq_zero (by omega)
theorem unit_zero {a : Nat → Int} {n : Int} (h : ∀ i, I32 (a i)) (hl : lengthI a n = 0) : unitI a n = nul := by
  have hz : sqS a (cntI n).toNat ≤ 0 := by
    unfold lengthI at hl
    have hb := lsI_bounds h (cntI n).toNat
    have hr := rootI_spec hb.1
    have h0 : rootI (lsI a (cntI n).toNat) = 0 := by
      have := hr.1
      unfold rawI clampI at hl
      omega
    rw [h0] at hr
    have := hr.2.2
    rw [lsI_eq h] at this
    omega
  funext i
  unfold unitI cut nul
  split
  · show divI (a i) (lengthI a n) = 0
    rw [sqS_zero h _ hz i (by omega), hl]
    decide
  · rfl

end Go.Proofs.Ytlggecbbliihiab
