/-
  Plain facts on digits: what is read of a numeral is its number. Nothing here speaks of the program.
-/
import Derived.Test.YtgoldmohmjjngaaFxD
namespace Go.Proofs.Ytgoldmohmjjngaa
set_option linter.unusedVariables false
set_option linter.unusedSimpArgs false

/-- A byte that is a digit. -/
def isDig (c : UInt8) : Prop := 48 ≤ c.toNat ∧ c.toNat ≤ 57
/-- The number of a row of digits, behind the number acc. -/
def dval : List UInt8 → Int → Int
  | [], acc => acc
  | c :: l, acc => dval l (10 * acc + (c.toNat - 48))

theorem dval_append (a b : List UInt8) (acc : Int) : dval (a ++ b) acc = dval b (dval a acc) := by
  induction a generalizing acc with
  | nil => rfl
  | cons c l ih => exact ih _
theorem dval_ge (l : List UInt8) (acc : Int) (h0 : 0 ≤ acc) (hl : ∀ c ∈ l, isDig c) : acc ≤ dval l acc := by
  induction l generalizing acc with
  | nil => exact Int.le_refl _
  | cons c l ih =>
    have hc := hl c (by simp)
    unfold isDig at hc
    have := ih (10 * acc + (c.toNat - 48)) (by omega) (fun x hx => hl x (by simp [hx]))
    simp only [dval]
    omega
theorem dig_ne {c : UInt8} (h : isDig c) : c ≠ 45 ∧ c ≠ 46 := by
  unfold isDig at h
  constructor <;> (intro e; subst e; revert h; decide)

theorem scan_dig (c : UInt8) (l : List UInt8) (f : Bool) (d : Dec) (h : isDig c) : scan (c :: l) f d = scan l false (d.digit (c.toNat - 48)) := by
  rw [scan, if_neg (fun e => (dig_ne h).1 e.1), if_neg (fun e => (dig_ne h).2 e.1)]
  exact if_pos h

theorem scan_whole (l r : List UInt8) (f : Bool) (m g : Bool) (W P U : Int) (hl : ∀ c ∈ l, isDig c) (h0 : 0 ≤ W) (hv : dval l W ≤ 65536) :
    scan (l ++ r) f ⟨m, g, false, W, P, U⟩ = scan r (f && l.isEmpty) ⟨m, g || !l.isEmpty, false, dval l W, P, U⟩ := by
  induction l generalizing f g W with
  | nil => simp [dval]
  | cons c l ih =>
    have hc := hl c (by simp)
    have hc2 := hc
    unfold isDig at hc2
    have hge := dval_ge l (10 * W + (c.toNat - 48)) (by omega) (fun x hx => hl x (by simp [hx]))
    simp only [dval] at hv
    have hcl : clampI (10 * W + (c.toNat - 48)) 0 65536 = 10 * W + (c.toNat - 48) := by unfold clampI; omega
    rw [List.cons_append, scan_dig c _ _ _ hc]
    simp only [Dec.digit, Bool.false_eq_true, if_false, hcl]
    rw [ih false true (10 * W + (c.toNat - 48)) (fun x hx => hl x (by simp [hx])) (by omega) hv]
    simp [dval]

/-- What a row of digits behind the point is worth. -/
def pval : List UInt8 → Int → Int
  | [], _ => 0
  | c :: l, u => ((c.toNat : Int) - 48) * (u / 10) + pval l (u / 10)
theorem scan_part (l : List UInt8) (m g : Bool) (W P U : Int) (hl : ∀ c ∈ l, isDig c) :
    ∃ U', scan l false ⟨m, g, true, W, P, U⟩ = (true, ⟨m, g || !l.isEmpty, true, W, P + pval l U, U'⟩) := by
  induction l generalizing g P U with
  | nil => exact ⟨U, by simp [scan, pval]⟩
  | cons c l ih =>
    rw [scan_dig c _ _ _ (hl c (by simp))]
    simp only [Dec.digit, if_true]
    obtain ⟨U', e⟩ := ih true (P + (c.toNat - 48) * (U / 10)) (U / 10) (fun x hx => hl x (by simp [hx]))
    exact ⟨U', by rw [e]; simp [pval, Int.add_assoc]⟩
theorem pval_zeros (k : Nat) (u : Int) : pval (List.replicate k 48) u = 0 := by
  induction k generalizing u with
  | zero => rfl
  | succ k ih => simp [List.replicate_succ, pval, ih]
theorem pval_append_zeros (l : List UInt8) (k : Nat) (u : Int) : pval (l ++ List.replicate k 48) u = pval l u := by
  induction l generalizing u with
  | nil => simp [pval, pval_zeros]
  | cons c l ih => simp [pval, ih]
end Go.Proofs.Ytgoldmohmjjngaa
