/-
  Plain facts on a number's text: its shape, what its digits are worth, and that both ways of rounding it agree. Nothing here speaks of the program.
-/
import Derived.Test.YtgoldmohmjjngaaFxPd
namespace Go.Proofs.Ytgoldmohmjjngaa
set_option linter.unusedVariables false
set_option linter.unusedSimpArgs false

/-- The number of a row of digits. -/
def valN : List UInt8 → Nat
  | [] => 0
  | c :: l => (c.toNat - 48) * 10 ^ l.length + valN l
theorem valN_lt (l : List UInt8) (hl : ∀ c ∈ l, isDig c) : valN l < 10 ^ l.length := by
  induction l with
  | nil => simp [valN]
  | cons c l ih =>
    have hc := hl c (by simp)
    unfold isDig at hc
    have h := ih (fun x hx => hl x (by simp [hx]))
    simp only [valN, List.length_cons, Nat.pow_succ]
    have hm : (c.toNat - 48) * 10 ^ l.length ≤ 9 * 10 ^ l.length := Nat.mul_le_mul_right _ (by omega)
    omega
theorem pval_valN (l : List UInt8) (j : Nat) (hl : ∀ c ∈ l, isDig c) : pval l ((10 ^ j : Nat) : Int) = ((valN l * 10 ^ j / 10 ^ l.length : Nat) : Int) := by
  induction l generalizing j with
  | nil => simp [pval, valN]
  | cons c l ih =>
    have hc := hl c (by simp)
    have hlt := valN_lt (c :: l) hl
    unfold isDig at hc
    have hl2 : ∀ x ∈ l, isDig x := fun x hx => hl x (by simp [hx])
    cases j with
    | zero =>
      have h0 : ∀ (r : List UInt8), pval r 0 = 0 := by
        intro r
        induction r with
        | nil => rfl
        | cons a r ihr => simp [pval, ihr]
      rw [Nat.pow_zero, Nat.mul_one, Nat.div_eq_of_lt hlt]
      simp only [pval]
      rw [show ((1 : Nat) : Int) / 10 = 0 by decide, h0]
      simp
    | succ j =>
      have e : (((10 ^ (j + 1) : Nat) : Int)) / 10 = ((10 ^ j : Nat) : Int) := by rw [Nat.pow_succ]; omega
      simp only [pval, e, ih j hl2, valN, List.length_cons]
      have e2 : ((c.toNat - 48) * 10 ^ l.length + valN l) * 10 ^ (j + 1) / 10 ^ (l.length + 1) = (c.toNat - 48) * 10 ^ j + valN l * 10 ^ j / 10 ^ l.length := by
        have e3 : ((c.toNat - 48) * 10 ^ l.length + valN l) * 10 ^ (j + 1) = ((c.toNat - 48) * 10 ^ j * 10 ^ l.length + valN l * 10 ^ j) * 10 := by
          rw [Nat.pow_succ, Nat.add_mul, Nat.add_mul]
          congr 1
          · simp only [Nat.mul_comm, Nat.mul_left_comm, Nat.mul_assoc]
          · simp only [Nat.mul_assoc]
        rw [e3, Nat.pow_succ, Nat.mul_div_mul_right _ _ (by omega), Nat.add_comm, Nat.add_mul_div_right _ _ (Nat.pow_pos (by omega)), Nat.add_comm]
      rw [e2]
      have hs : ((c.toNat : Int) - 48) = ((c.toNat - 48 : Nat) : Int) := by omega
      rw [hs]
      simp
/-- The two roundings of a part agree. -/
theorem part_round (v k : Nat) : ((((v * 10 ^ 17 / 10 ^ k : Nat) : Int) + 762939453125) / 1525878906250) = (((v * 131072 / 10 ^ k + 1) / 2 : Nat) : Int) := by
  have h1 : v * 10 ^ 17 / 10 ^ k / 762939453125 = v * 131072 / 10 ^ k := by
    rw [Nat.div_div_eq_div_mul, Nat.mul_comm (10 ^ k), ← Nat.div_div_eq_div_mul, show v * 10 ^ 17 = v * 131072 * 762939453125 by rw [Nat.mul_assoc], Nat.mul_div_cancel _ (by omega)]
  have h2 : (v * 10 ^ 17 / 10 ^ k + 762939453125) / 1525878906250 = (v * 131072 / 10 ^ k + 1) / 2 := by
    rw [← h1]
    generalize v * 10 ^ 17 / 10 ^ k = P
    omega
  rw [← h2]
  omega

/-- The whole part as fix takes it. -/
def wfold : List UInt8 → Int → Int
  | [], w => w
  | c :: l, w => wfold l (clampI (10 * w + (c.toNat - 48)) 0 65536)
/-- The whole part as the document's answer takes it. -/
def nfold : List UInt8 → Int → Int
  | [], w => w
  | c :: l, w => nfold l (min (10 * w + (c.toNat - 48)) 1048576)
theorem wfold_eq (l : List UInt8) (v : Int) (h0 : 0 ≤ v) (hl : ∀ c ∈ l, isDig c) : wfold l (min v 65536) = min (dval l v) 65536 := by
  induction l generalizing v with
  | nil => rfl
  | cons c l ih =>
    have hc := hl c (by simp)
    unfold isDig at hc
    simp only [wfold, dval]
    rw [← ih (10 * v + (c.toNat - 48)) (by omega) (fun x hx => hl x (by simp [hx]))]
    congr 1
    unfold clampI
    omega
theorem nfold_eq (l : List UInt8) (v : Int) (h0 : 0 ≤ v) (hl : ∀ c ∈ l, isDig c) : nfold l (min v 1048576) = min (dval l v) 1048576 := by
  induction l generalizing v with
  | nil => rfl
  | cons c l ih =>
    have hc := hl c (by simp)
    unfold isDig at hc
    simp only [nfold, dval]
    rw [← ih (10 * v + (c.toNat - 48)) (by omega) (fun x hx => hl x (by simp [hx]))]
    congr 1
    omega
theorem scan_wholes (l r : List UInt8) (f : Bool) (m g : Bool) (W P U : Int) (hl : ∀ c ∈ l, isDig c) :
    scan (l ++ r) f ⟨m, g, false, W, P, U⟩ = scan r (f && l.isEmpty) ⟨m, g || !l.isEmpty, false, wfold l W, P, U⟩ := by
  induction l generalizing f g W with
  | nil => simp [wfold]
  | cons c l ih =>
    rw [List.cons_append, scan_dig c _ _ _ (hl c (by simp))]
    simp only [Dec.digit, Bool.false_eq_true, if_false]
    rw [ih false true _ (fun x hx => hl x (by simp [hx]))]
    simp [wfold]

/-- What the document's answer finds in a text: where the point is (-1: none), and how many digits there are; none where it is no number's. -/
def look : List UInt8 → Nat → Int → Nat → Option (Int × Nat)
  | [], _, p, k => some (p, k)
  | c :: l, i, p, k => if 48 ≤ c.toNat ∧ c.toNat ≤ 57 then look l (i + 1) p (k + 1) else if c = 46 ∧ p < 0 then look l (i + 1) i k else none

theorem look_digs (l r : List UInt8) (i : Nat) (p : Int) (k : Nat) (hl : ∀ c ∈ l, isDig c) : look (l ++ r) i p k = look r (i + l.length) p (k + l.length) := by
  induction l generalizing i k with
  | nil => rfl
  | cons c l ih =>
    have hc : 48 ≤ c.toNat ∧ c.toNat ≤ 57 := hl c (by simp)
    rw [List.cons_append, look, if_pos hc, ih _ _ (fun x hx => hl x (by simp [hx]))]
    congr 1 <;> simp <;> omega

/-- A row of bytes is digits, and then another byte or nothing. -/
theorem split_digs (l : List UInt8) : ∃ A r, l = A ++ r ∧ (∀ c ∈ A, isDig c) ∧ (r = [] ∨ ∃ c r', r = c :: r' ∧ ¬ isDig c) := by
  induction l with
  | nil => exact ⟨[], [], rfl, by simp, .inl rfl⟩
  | cons c l ih =>
    by_cases h : isDig c
    · obtain ⟨A, r, e, hA, hr⟩ := ih
      refine ⟨c :: A, r, by rw [e]; rfl, ?_, hr⟩
      intro x hx
      rcases List.mem_cons.1 hx with rfl | hx
      · exact h
      · exact hA x hx
    · exact ⟨[], c :: l, rfl, by simp, .inr ⟨c, l, rfl, h⟩⟩

/-- The shapes of a text behind its minus: digits, digits about a point, a wrong sign, a wrong sign behind the point. -/
def Shape (l : List UInt8) : Prop :=
  (∀ c ∈ l, isDig c) ∨ (∃ A B : List UInt8, l = A ++ 46 :: B ∧ (∀ c ∈ A, isDig c) ∧ ∀ c ∈ B, isDig c) ∨
  (∃ (A : List UInt8) (c : UInt8) (r : List UInt8), l = A ++ c :: r ∧ (∀ c ∈ A, isDig c) ∧ ¬ isDig c ∧ c ≠ 46) ∨
  ∃ (A B : List UInt8) (c : UInt8) (r : List UInt8), l = A ++ 46 :: (B ++ c :: r) ∧ (∀ c ∈ A, isDig c) ∧ (∀ c ∈ B, isDig c) ∧ ¬ isDig c
theorem shape (l : List UInt8) : Shape l := by
  obtain ⟨A, r, rfl, hA, hr⟩ := split_digs l
  rcases hr with rfl | ⟨c, r', rfl, hc⟩
  · rw [List.append_nil]; exact .inl hA
  · by_cases h : c = 46
    · subst h
      obtain ⟨B, q, rfl, hB, hq⟩ := split_digs r'
      rcases hq with rfl | ⟨d, q', rfl, hd⟩
      · rw [List.append_nil]; exact .inr (.inl ⟨A, B, rfl, hA, hB⟩)
      · exact .inr (.inr (.inr ⟨A, B, d, q', rfl, hA, hB, hd⟩))
    · exact .inr (.inr (.inl ⟨A, c, r', rfl, hA, hc, h⟩))
end Go.Proofs.Ytgoldmohmjjngaa
