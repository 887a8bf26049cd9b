/-
  Colours: the document's down and Wrap. What the dump lacks is left out.
-/
import Derived.Test.YtgblnipfeikomabSB
namespace Go.Proofs.Ytgblnipfeikomab
open Go.RowKit
set_option linter.unusedVariables false
set_option linter.unusedSimpArgs false

theorem down_tdiv {p q : Int} (h : 0 < q) : p / q = if p < p.tdiv q * q then p.tdiv q - 1 else p.tdiv q := by
  have h1 := Int.tmod_add_mul_tdiv p q
  have hb := tmod_bd (i := p) h
  rw [Int.mul_comm q] at h1
  by_cases hn : p < p.tdiv q * q
  · rw [if_pos hn]
    have e : p = (p.tmod q + q) + q * (p.tdiv q - 1) := by rw [Int.mul_sub, Int.mul_comm q (p.tdiv q)]; omega
    conv => lhs; rw [e]
    rw [Int.add_mul_ediv_left _ _ (by omega), Int.ediv_eq_zero_of_lt (by omega) (by omega)]
    omega
  · rw [if_neg hn]
    have e : p = p.tmod q + q * (p.tdiv q) := by rw [Int.mul_comm q (p.tdiv q)]; omega
    conv => lhs; rw [e]
    rw [Int.add_mul_ediv_left _ _ (by omega), Int.ediv_eq_zero_of_lt (by omega) (by omega)]
    omega
theorem tdiv_bd {p q B : Int} (hq : 1 ≤ q) (hB : -B ≤ p ∧ p ≤ B) : -B ≤ p.tdiv q ∧ p.tdiv q ≤ B ∧ -(B + q) ≤ p.tdiv q * q ∧ p.tdiv q * q ≤ B + q := by
  have h1 := Int.tmod_add_mul_tdiv p q
  have hb := tmod_bd (i := p) (n := q) (by omega)
  rw [Int.mul_comm q] at h1
  have h2 := Int.natAbs_tdiv_le_natAbs p q
  omega

/-- What the document's Wrap answers, by a mode that there is. -/
theorem wrapI_ref {m i n : Int} (h1 : 1 ≤ n) (h2 : n ≤ 64) : wrapI m i n = if m = 1 then i % n else if m = 2 then max 0 (min i (n - 1)) else if m = 3 then min (i % (2 * n)) (2 * n - 1 - i % (2 * n)) else 0 := by
  unfold wrapI
  rw [if_neg (by omega)]

end Go.Proofs.Ytgblnipfeikomab
