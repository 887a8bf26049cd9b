/-
  Plain facts on sines, by a sum of odd powers. Nothing here speaks of the program.
-/
import Derived.Test.YtlggecbbliihiabFxB
namespace Go.Proofs.Ytlggecbbliihiab
set_option linter.unusedVariables false

/-- The sum's numbers. -/
def cI (k : Nat) : Int := [5026995, 85569306, 693598668, 1686629713].getD k 0
/-- The sum, from the highest power on. -/
def yI (s : Int) : Nat → Int
  | 0 => 172272
  | k + 1 => cI k - yI s k * s / 1073741824
/-- What the sum is at most. -/
def ctI : Nat → Int
  | 0 => 172272
  | k + 1 => cI k
theorem ct_up : ∀ k, k < 4 → ctI k ≤ cI k := by decide
theorem ct_top : ∀ k, k < 5 → ctI k ≤ 1686629713 := by decide
theorem yI_bounds {s : Int} (h0 : 0 ≤ s) (h1 : s ≤ 1073741824) : ∀ k, k ≤ 4 → 0 ≤ yI s k ∧ yI s k ≤ ctI k
  | 0, _ => by simp [yI, ctI]
  | k + 1, hk => by
    have ih := yI_bounds h0 h1 k (by omega)
    have hc := ct_up k (by omega)
    have h2 : 0 ≤ yI s k * s := Int.mul_nonneg ih.1 h0
    have h3 : yI s k * s ≤ yI s k * 1073741824 := Int.mul_le_mul_of_nonneg_left h1 ih.1
    rw [show yI s (k + 1) = cI k - yI s k * s / 1073741824 from rfl, show ctI (k + 1) = cI k from rfl]
    omega
theorem y_mul {s : Int} (h0 : 0 ≤ s) (h1 : s ≤ 1073741824) {k : Nat} (hk : k ≤ 4) {r : Int} (hr : 0 ≤ r) (hr1 : r ≤ 1073741824) : 0 ≤ yI s k * r ∧ yI s k * r ≤ 1811004864449216512 := by
  have hy := yI_bounds h0 h1 k hk
  have ht := ct_top k (by omega)
  refine ⟨Int.mul_nonneg hy.1 hr, ?_⟩
  have h2 : yI s k * r ≤ 1686629713 * r := Int.mul_le_mul_of_nonneg_right (by omega) hr
  omega
theorem rr_bounds {r : Int} (h0 : 0 ≤ r) (h1 : r ≤ 1073741824) : 0 ≤ r * r ∧ r * r ≤ 1152921504606846976 := by
  refine ⟨Int.mul_nonneg h0 h0, ?_⟩
  have : r * r ≤ 1073741824 * 1073741824 := Int.mul_le_mul h1 h1 h0 (by omega)
  omega
/-- The raw of the sine of a phase within the first quarter. -/
def fsI (r : Int) : Int := min ((yI (r * r / 1073741824) 4 * r / 1073741824 + 8192) / 16384) 65536
theorem fsI_bounds {r : Int} (h0 : 0 ≤ r) (h1 : r ≤ 1073741824) : 0 ≤ fsI r ∧ fsI r ≤ 65536 := by
  have hb := rr_bounds h0 h1
  have hm := y_mul (s := r * r / 1073741824) (by omega) (by omega) (k := 4) (by omega) h0 h1
  unfold fsI
  generalize yI (r * r / 1073741824) 4 * r = z at *
  omega
/-- A phase as one of the first quarter. -/
def foldI (p : Int) : Int := if p / 1073741824 % 2 = 1 then 1073741824 - p % 1073741824 else p % 1073741824
theorem foldI_bounds (p : Int) : 0 ≤ foldI p ∧ foldI p ≤ 1073741824 := by unfold foldI; split <;> omega
/-- The raw of the sine of a phase. -/
def sineI (p : Int) : Int := if 2 ≤ p / 1073741824 then -fsI (foldI p) else fsI (foldI p)
theorem sineI_bounds (p : Int) : -65536 ≤ sineI p ∧ sineI p ≤ 65536 := by
  have h := foldI_bounds p
  have h2 := fsI_bounds h.1 h.2
  unfold sineI
  split <;> omega
/-- The phase of the number of raw x. -/
def phaseI (x : Int) : Int := x * 683565276 / 65536 % 4294967296
theorem phaseI_bounds (x : Int) : 0 ≤ phaseI x ∧ phaseI x < 4294967296 := by unfold phaseI; omega
def sinI (x : Int) : Int := sineI (phaseI x)
def cosI (x : Int) : Int := sineI ((phaseI x + 1073741824) % 4294967296)
end Go.Proofs.Ytlggecbbliihiab
