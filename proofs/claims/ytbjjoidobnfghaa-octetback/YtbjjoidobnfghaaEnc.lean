/-
  Plain facts: the bytes of a row of numbers, four and two in turn, and what a Reader takes of them. Nothing here speaks of the program.
-/
import Derived.Test.YtbjjoidobnfghaaW2
import Derived.Test.YtbjjoidobnfghaaNum
namespace Go.Proofs.Ytbjjoidobnfghaa
open Go.RowKit

def wide (k : Nat) : Nat := if k % 2 = 0 then 4 else 2
/-- The bytes of the first k numbers. -/
def encs (l : List Int) : Nat → List Int
  | 0 => []
  | k + 1 => encs l k ++ low (l.getD k 0) (wide k)

theorem encs_len (l : List Int) (k : Nat) : (encs l k).length ≤ 4 * k := by
  induction k with
  | zero => simp [encs]
  | succ k ih =>
    simp only [encs, List.length_append, low_length, wide]
    split <;> omega
theorem encs_byt (l : List Int) (k : Nat) : Byt (encs l k) := by
  induction k with
  | zero => intro x hx; cases hx
  | succ k ih => exact ih.append (low_byt _ _)
theorem encs_split (l : List Int) (m k : Nat) (h : k < m) : ∃ r, encs l m = encs l k ++ (low (l.getD k 0) (wide k) ++ r) := by
  induction m with
  | zero => omega
  | succ m ih =>
    by_cases hk : k = m
    · subst hk
      exact ⟨[], by rw [List.append_nil]; rfl⟩
    · obtain ⟨r, hr⟩ := ih (by omega)
      exact ⟨r ++ low (l.getD m 0) (wide m), by rw [encs, hr, List.append_assoc, List.append_assoc]⟩
theorem took_encs (l : List Int) (m k : Nat) (h : k < m) : took (encs l m) (encs l k).length 0 (wide k) = (low (l.getD k 0) (wide k), (encs l (k + 1)).length, 0) := by
  obtain ⟨r, hr⟩ := encs_split l m k h
  have hl : (encs l m).length = (encs l k).length + (wide k + r.length) := by rw [hr, List.length_append, List.length_append, low_length]
  rw [took_full (by omega) (by omega)]
  have e1 : (encs l (k + 1)).length = (encs l k).length + wide k := by rw [encs, List.length_append, low_length]
  have e2 : (((encs l m).drop (encs l k).length).take ((wide k : Nat) : Int).toNat) = low (l.getD k 0) (wide k) := by
    rw [hr, List.drop_left, Int.toNat_natCast]
    have e3 : ∀ a b : List Int, a.length = wide k → (a ++ b).take (wide k) = a := by
      intro a b ha
      rw [← ha, List.take_left]
    exact e3 _ _ (low_length _ _)
  rw [e1, e2, Int.toNat_natCast]
theorem numOf_low4 (x : Int) (h0 : 0 ≤ x) (h1 : x < 4294967296) : numOf (low x 4) = x := by
  simp only [low, numOf]
  omega
theorem numOf_low2 (x : Int) : numOf (low x 2) = x % 65536 := by
  simp only [low, numOf]
  omega
theorem low_mod2 (x : Int) : low (x % 65536) 2 = low x 2 := low_mod16 x
theorem wide_even {k : Nat} (h : k % 2 = 0) : wide k = 4 := by simp [wide, h]
theorem wide_odd {k : Nat} (h : ¬ k % 2 = 0) : wide k = 2 := by simp [wide, h]
theorem wrap16_sgn (x : Int) : IntKind.i16.wrap x = sgn 32768 (x % 65536) := by
  simp only [IntKind.wrap, IntKind.bits, IntKind.signed, sgn, show ((2 : Int) ^ 16) = 65536 from rfl, show ((2 : Int) ^ (16 - 1)) = 32768 from rfl, Bool.true_and, decide_eq_true_eq]
  split <;> split <;> omega
end Go.Proofs.Ytbjjoidobnfghaa
