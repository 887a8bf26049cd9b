/- Several texts in one. -/
import Derived.Test.YtdcamcpffiilbaaDoorFxB
import Derived.Test.YtdcamcpffiilbaaDoorFxD
import Derived.Test.YtdcamcpffiilbaaDoorLem
import Derived.Test.YtdcamcpffiilbaaDoorBlk
import Derived.Laws.IdiomStrings
import Derived.Lib.TrimByte
import Derived.Laws.AppendOwn
import Derived.Deep.QuietTactic
import Derived.BigQuiet
/-
  The walks of the document's answer for numbers, each against the same Lean functions. What the dump lacks is left out.
-/
namespace Go.Proofs.YtdcamcpffiilbaaDoor
open Go.RowKit
set_option linter.unusedSimpArgs false
set_option linter.unusedVariables false

theorem refRaw_any (n : Int) (w : World) (h : I64 n) :
    Calls Tryd.prog 73 #[.int .i64 n] w fun e w' => e = .returned (.int .i32 (rawI n)) ∧ w' = w := by
  go_enter Tryd.func73, Tryd.ntmps73
  unfold I64 at h
  go_wp2
  all_goals go_ret
  all_goals refine ⟨?_, rfl⟩
  all_goals simp [rawI, clampI]
  all_goals omega

theorem refOf_any (n : Int) (w : World) (h : I64 n) :
    Calls Tryd.prog 59 #[.int .i64 n] w fun e w' => e = .returned (.int .i32 (rawI (65536 * n))) ∧ w' = w := by
  go_enter Tryd.func59, Tryd.ntmps59
  unfold I64 at h
  by_cases h1 : 40000 < n
  · go_wp2
    go_ret
    refine ⟨?_, rfl⟩
    simp [rawI, clampI]
    omega
  · by_cases h2 : n < -40000
    · go_wp2
      go_ret
      refine ⟨?_, rfl⟩
      simp [rawI, clampI]
      omega
    · go_wp2_with fail
      refine (refRaw_any _ _ (by unfold I64; omega)).mono ?_
      rintro e w1 ⟨rfl, rfl⟩
      go_wp2
      go_ret
      exact ⟨by simp [Int.mul_comm], rfl⟩

theorem quo_up {n d : Int} (hn : 0 ≤ n) (hd : 0 < d) : (n + d / 2) / d = if d ≤ 2 * (n % d) then n / d + 1 else n / d := by
  have h1 : d * (n / d) + n % d = n := Int.mul_ediv_add_emod n d
  have h2 := Int.emod_lt_of_pos n hd
  have h3 := Int.emod_nonneg n (by omega : d ≠ 0)
  generalize n / d = q at *
  generalize n % d = r at *
  have e : n + d / 2 = (r + d / 2) + d * q := by omega
  rw [e, Int.add_mul_ediv_left _ _ (by omega)]
  split
  · have : (r + d / 2) / d = 1 := by
      have h : r + d / 2 = (r + d / 2 - d) + d * 1 := by omega
      rw [h, Int.add_mul_ediv_left _ _ (by omega), Int.ediv_eq_zero_of_lt (by omega) (by omega)]
      omega
    omega
  · have : (r + d / 2) / d = 0 := Int.ediv_eq_zero_of_lt (by omega) (by omega)
    omega

/-- The quotient of 2^16 x by y, a half rounded up. -/
def upQ (x y : Int) : Int := if y ≤ 2 * (x * 65536 % y) then x * 65536 / y + 1 else x * 65536 / y
theorem upQ_parts (x y : Int) (hx : 0 ≤ x ∧ x ≤ 2147483648) (hy : 0 < y) : 0 ≤ x * 65536 / y ∧ x * 65536 / y ≤ 140737488355328 ∧ 0 ≤ x * 65536 % y ∧ x * 65536 % y < y := by
  refine ⟨Int.ediv_nonneg (by omega) (by omega), ?_, Int.emod_nonneg _ (by omega), Int.emod_lt_of_pos _ hy⟩
  have : x * 65536 / y < 140737488355329 := by
    refine Int.ediv_lt_of_lt_mul (by omega) ?_
    have : (140737488355329 : Int) * 1 ≤ 140737488355329 * y := by omega
    omega
  omega
theorem near_upQ (a b : Int) (h : b ≠ 0) : nearI a b = upQ a.natAbs b.natAbs := by
  unfold nearI upQ
  rw [quo_up (by omega) (by omega)]

end Go.Proofs.YtdcamcpffiilbaaDoor

/-
  Plain facts on digits: what is read of a numeral is its number. Nothing here speaks of the program.
-/
namespace Go.Proofs.YtdcamcpffiilbaaDoor
set_option linter.unusedVariables false
set_option linter.unusedSimpArgs false

/-- A byte that is a digit. -/
def isDig (c : UInt8) : Prop := 48 ≤ c.toNat ∧ c.toNat ≤ 57
/-- The number of a row of digits, behind the number acc. -/
def dval : List UInt8 → Int → Int
  | [], acc => acc
  | c :: l, acc => dval l (10 * acc + (c.toNat - 48))

theorem dval_append (a b : List UInt8) (acc : Int) : dval (a ++ b) acc = dval b (dval a acc) := by
  induction a generalizing acc with
  | nil => rfl
  | cons c l ih => exact ih _
theorem dval_ge (l : List UInt8) (acc : Int) (h0 : 0 ≤ acc) (hl : ∀ c ∈ l, isDig c) : acc ≤ dval l acc := by
  induction l generalizing acc with
  | nil => exact Int.le_refl _
  | cons c l ih =>
    have hc := hl c (by simp)
    unfold isDig at hc
    have := ih (10 * acc + (c.toNat - 48)) (by omega) (fun x hx => hl x (by simp [hx]))
    simp only [dval]
    omega
theorem dig_ne {c : UInt8} (h : isDig c) : c ≠ 45 ∧ c ≠ 46 := by
  unfold isDig at h
  constructor <;> (intro e; subst e; revert h; decide)

theorem scan_dig (c : UInt8) (l : List UInt8) (f : Bool) (d : Dec) (h : isDig c) : scan (c :: l) f d = scan l false (d.digit (c.toNat - 48)) := by
  rw [scan, if_neg (fun e => (dig_ne h).1 e.1), if_neg (fun e => (dig_ne h).2 e.1)]
  exact if_pos h

theorem scan_whole (l r : List UInt8) (f : Bool) (m g : Bool) (W P U : Int) (hl : ∀ c ∈ l, isDig c) (h0 : 0 ≤ W) (hv : dval l W ≤ 65536) :
    scan (l ++ r) f ⟨m, g, false, W, P, U⟩ = scan r (f && l.isEmpty) ⟨m, g || !l.isEmpty, false, dval l W, P, U⟩ := by
  induction l generalizing f g W with
  | nil => simp [dval]
  | cons c l ih =>
    have hc := hl c (by simp)
    have hc2 := hc
    unfold isDig at hc2
    have hge := dval_ge l (10 * W + (c.toNat - 48)) (by omega) (fun x hx => hl x (by simp [hx]))
    simp only [dval] at hv
    have hcl : clampI (10 * W + (c.toNat - 48)) 0 65536 = 10 * W + (c.toNat - 48) := by unfold clampI; omega
    rw [List.cons_append, scan_dig c _ _ _ hc]
    simp only [Dec.digit, Bool.false_eq_true, if_false, hcl]
    rw [ih false true (10 * W + (c.toNat - 48)) (fun x hx => hl x (by simp [hx])) (by omega) hv]
    simp [dval]

/-- What a row of digits behind the point is worth. -/
def pval : List UInt8 → Int → Int
  | [], _ => 0
  | c :: l, u => ((c.toNat : Int) - 48) * (u / 10) + pval l (u / 10)
theorem scan_part (l : List UInt8) (m g : Bool) (W P U : Int) (hl : ∀ c ∈ l, isDig c) :
    ∃ U', scan l false ⟨m, g, true, W, P, U⟩ = (true, ⟨m, g || !l.isEmpty, true, W, P + pval l U, U'⟩) := by
  induction l generalizing g P U with
  | nil => exact ⟨U, by simp [scan, pval]⟩
  | cons c l ih =>
    rw [scan_dig c _ _ _ (hl c (by simp))]
    simp only [Dec.digit, if_true]
    obtain ⟨U', e⟩ := ih true (P + (c.toNat - 48) * (U / 10)) (U / 10) (fun x hx => hl x (by simp [hx]))
    exact ⟨U', by rw [e]; simp [pval, Int.add_assoc]⟩
theorem pval_zeros (k : Nat) (u : Int) : pval (List.replicate k 48) u = 0 := by
  induction k generalizing u with
  | zero => rfl
  | succ k ih => simp [List.replicate_succ, pval, ih]
theorem pval_append_zeros (l : List UInt8) (k : Nat) (u : Int) : pval (l ++ List.replicate k 48) u = pval l u := by
  induction l generalizing u with
  | nil => simp [pval, pval_zeros]
  | cons c l ih => simp [pval, ih]
end Go.Proofs.YtdcamcpffiilbaaDoor

/-
  Plain facts on a number's text: its shape, what its digits are worth, and that both ways of rounding it agree. Nothing here speaks of the program.
-/
namespace Go.Proofs.YtdcamcpffiilbaaDoor
set_option linter.unusedVariables false
set_option linter.unusedSimpArgs false

/-- The number of a row of digits. -/
def valN : List UInt8 → Nat
  | [] => 0
  | c :: l => (c.toNat - 48) * 10 ^ l.length + valN l
theorem valN_lt (l : List UInt8) (hl : ∀ c ∈ l, isDig c) : valN l < 10 ^ l.length := by
  induction l with
  | nil => simp [valN]
  | cons c l ih =>
    have hc := hl c (by simp)
    unfold isDig at hc
    have h := ih (fun x hx => hl x (by simp [hx]))
    simp only [valN, List.length_cons, Nat.pow_succ]
    have hm : (c.toNat - 48) * 10 ^ l.length ≤ 9 * 10 ^ l.length := Nat.mul_le_mul_right _ (by omega)
    omega
theorem pval_valN (l : List UInt8) (j : Nat) (hl : ∀ c ∈ l, isDig c) : pval l ((10 ^ j : Nat) : Int) = ((valN l * 10 ^ j / 10 ^ l.length : Nat) : Int) := by
  induction l generalizing j with
  | nil => simp [pval, valN]
  | cons c l ih =>
    have hc := hl c (by simp)
    have hlt := valN_lt (c :: l) hl
    unfold isDig at hc
    have hl2 : ∀ x ∈ l, isDig x := fun x hx => hl x (by simp [hx])
    cases j with
    | zero =>
      have h0 : ∀ (r : List UInt8), pval r 0 = 0 := by
        intro r
        induction r with
        | nil => rfl
        | cons a r ihr => simp [pval, ihr]
      rw [Nat.pow_zero, Nat.mul_one, Nat.div_eq_of_lt hlt]
      simp only [pval]
      rw [show ((1 : Nat) : Int) / 10 = 0 by decide, h0]
      simp
    | succ j =>
      have e : (((10 ^ (j + 1) : Nat) : Int)) / 10 = ((10 ^ j : Nat) : Int) := by rw [Nat.pow_succ]; omega
      simp only [pval, e, ih j hl2, valN, List.length_cons]
      have e2 : ((c.toNat - 48) * 10 ^ l.length + valN l) * 10 ^ (j + 1) / 10 ^ (l.length + 1) = (c.toNat - 48) * 10 ^ j + valN l * 10 ^ j / 10 ^ l.length := by
        have e3 : ((c.toNat - 48) * 10 ^ l.length + valN l) * 10 ^ (j + 1) = ((c.toNat - 48) * 10 ^ j * 10 ^ l.length + valN l * 10 ^ j) * 10 := by
          rw [Nat.pow_succ, Nat.add_mul, Nat.add_mul]
          congr 1
          · simp only [Nat.mul_comm, Nat.mul_left_comm, Nat.mul_assoc]
          · simp only [Nat.mul_assoc]
        rw [e3, Nat.pow_succ, Nat.mul_div_mul_right _ _ (by omega), Nat.add_comm, Nat.add_mul_div_right _ _ (Nat.pow_pos (by omega)), Nat.add_comm]
      rw [e2]
      have hs : ((c.toNat : Int) - 48) = ((c.toNat - 48 : Nat) : Int) := by omega
      rw [hs]
      simp
/-- The two roundings of a part agree. -/
theorem part_round (v k : Nat) : ((((v * 10 ^ 17 / 10 ^ k : Nat) : Int) + 762939453125) / 1525878906250) = (((v * 131072 / 10 ^ k + 1) / 2 : Nat) : Int) := by
  have h1 : v * 10 ^ 17 / 10 ^ k / 762939453125 = v * 131072 / 10 ^ k := by
    rw [Nat.div_div_eq_div_mul, Nat.mul_comm (10 ^ k), ← Nat.div_div_eq_div_mul, show v * 10 ^ 17 = v * 131072 * 762939453125 by rw [Nat.mul_assoc], Nat.mul_div_cancel _ (by omega)]
  have h2 : (v * 10 ^ 17 / 10 ^ k + 762939453125) / 1525878906250 = (v * 131072 / 10 ^ k + 1) / 2 := by
    rw [← h1]
    generalize v * 10 ^ 17 / 10 ^ k = P
    omega
  rw [← h2]
  omega

/-- The whole part as fix takes it. -/
def wfold : List UInt8 → Int → Int
  | [], w => w
  | c :: l, w => wfold l (clampI (10 * w + (c.toNat - 48)) 0 65536)
/-- The whole part as the document's answer takes it. -/
def nfold : List UInt8 → Int → Int
  | [], w => w
  | c :: l, w => nfold l (min (10 * w + (c.toNat - 48)) 1048576)
theorem wfold_eq (l : List UInt8) (v : Int) (h0 : 0 ≤ v) (hl : ∀ c ∈ l, isDig c) : wfold l (min v 65536) = min (dval l v) 65536 := by
  induction l generalizing v with
  | nil => rfl
  | cons c l ih =>
    have hc := hl c (by simp)
    unfold isDig at hc
    simp only [wfold, dval]
    rw [← ih (10 * v + (c.toNat - 48)) (by omega) (fun x hx => hl x (by simp [hx]))]
    congr 1
    unfold clampI
    omega
theorem nfold_eq (l : List UInt8) (v : Int) (h0 : 0 ≤ v) (hl : ∀ c ∈ l, isDig c) : nfold l (min v 1048576) = min (dval l v) 1048576 := by
  induction l generalizing v with
  | nil => rfl
  | cons c l ih =>
    have hc := hl c (by simp)
    unfold isDig at hc
    simp only [nfold, dval]
    rw [← ih (10 * v + (c.toNat - 48)) (by omega) (fun x hx => hl x (by simp [hx]))]
    congr 1
    omega
theorem scan_wholes (l r : List UInt8) (f : Bool) (m g : Bool) (W P U : Int) (hl : ∀ c ∈ l, isDig c) :
    scan (l ++ r) f ⟨m, g, false, W, P, U⟩ = scan r (f && l.isEmpty) ⟨m, g || !l.isEmpty, false, wfold l W, P, U⟩ := by
  induction l generalizing f g W with
  | nil => simp [wfold]
  | cons c l ih =>
    rw [List.cons_append, scan_dig c _ _ _ (hl c (by simp))]
    simp only [Dec.digit, Bool.false_eq_true, if_false]
    rw [ih false true _ (fun x hx => hl x (by simp [hx]))]
    simp [wfold]

/-- What the document's answer finds in a text: where the point is (-1: none), and how many digits there are; none where it is no number's. -/
def look : List UInt8 → Nat → Int → Nat → Option (Int × Nat)
  | [], _, p, k => some (p, k)
  | c :: l, i, p, k => if 48 ≤ c.toNat ∧ c.toNat ≤ 57 then look l (i + 1) p (k + 1) else if c = 46 ∧ p < 0 then look l (i + 1) i k else none

theorem look_digs (l r : List UInt8) (i : Nat) (p : Int) (k : Nat) (hl : ∀ c ∈ l, isDig c) : look (l ++ r) i p k = look r (i + l.length) p (k + l.length) := by
  induction l generalizing i k with
  | nil => rfl
  | cons c l ih =>
    have hc : 48 ≤ c.toNat ∧ c.toNat ≤ 57 := hl c (by simp)
    rw [List.cons_append, look, if_pos hc, ih _ _ (fun x hx => hl x (by simp [hx]))]
    congr 1 <;> simp <;> omega

/-- A row of bytes is digits, and then another byte or nothing. -/
theorem split_digs (l : List UInt8) : ∃ A r, l = A ++ r ∧ (∀ c ∈ A, isDig c) ∧ (r = [] ∨ ∃ c r', r = c :: r' ∧ ¬ isDig c) := by
  induction l with
  | nil => exact ⟨[], [], rfl, by simp, .inl rfl⟩
  | cons c l ih =>
    by_cases h : isDig c
    · obtain ⟨A, r, e, hA, hr⟩ := ih
      refine ⟨c :: A, r, by rw [e]; rfl, ?_, hr⟩
      intro x hx
      rcases List.mem_cons.1 hx with rfl | hx
      · exact h
      · exact hA x hx
    · exact ⟨[], c :: l, rfl, by simp, .inr ⟨c, l, rfl, h⟩⟩

/-- The shapes of a text behind its minus: digits, digits about a point, a wrong sign, a wrong sign behind the point. -/
def Shape (l : List UInt8) : Prop :=
  (∀ c ∈ l, isDig c) ∨ (∃ A B : List UInt8, l = A ++ 46 :: B ∧ (∀ c ∈ A, isDig c) ∧ ∀ c ∈ B, isDig c) ∨
  (∃ (A : List UInt8) (c : UInt8) (r : List UInt8), l = A ++ c :: r ∧ (∀ c ∈ A, isDig c) ∧ ¬ isDig c ∧ c ≠ 46) ∨
  ∃ (A B : List UInt8) (c : UInt8) (r : List UInt8), l = A ++ 46 :: (B ++ c :: r) ∧ (∀ c ∈ A, isDig c) ∧ (∀ c ∈ B, isDig c) ∧ ¬ isDig c
theorem shape (l : List UInt8) : Shape l := by
  obtain ⟨A, r, rfl, hA, hr⟩ := split_digs l
  rcases hr with rfl | ⟨c, r', rfl, hc⟩
  · rw [List.append_nil]; exact .inl hA
  · by_cases h : c = 46
    · subst h
      obtain ⟨B, q, rfl, hB, hq⟩ := split_digs r'
      rcases hq with rfl | ⟨d, q', rfl, hd⟩
      · rw [List.append_nil]; exact .inr (.inl ⟨A, B, rfl, hA, hB⟩)
      · exact .inr (.inr (.inr ⟨A, B, d, q', rfl, hA, hB, hd⟩))
    · exact .inr (.inr (.inl ⟨A, c, r', rfl, hA, hc, h⟩))
end Go.Proofs.YtdcamcpffiilbaaDoor

/-
  Plain facts on bytes as numbers. Nothing here speaks of the program.
-/
namespace Go.Proofs.YtdcamcpffiilbaaDoor
open Go.RowKit

/-- The number of bytes, the lowest first. -/
def numOf : List Int → Int
  | [] => 0
  | x :: r => x + 256 * numOf r

theorem numOf_snoc (l : List Int) (c : Int) : numOf (l ++ [c]) = numOf l + 256 ^ l.length * c := by
  induction l with
  | nil => simp [numOf]
  | cons x r ih =>
    simp only [List.cons_append, numOf, ih, List.length_cons, Int.pow_succ]
    rw [Int.mul_add, Int.mul_comm (256 ^ r.length) 256, Int.mul_assoc, Int.add_assoc]

theorem numOf_bound (l : List Int) (h : Byt l) : 0 ≤ numOf l ∧ numOf l < 256 ^ l.length := by
  induction l with
  | nil => simp [numOf]
  | cons x r ih =>
    have h1 := ih (fun y hy => h y (by simp [hy]))
    have h2 := h x (by simp)
    simp only [numOf, List.length_cons, Int.pow_succ]
    omega

theorem or_nat (x c k : Nat) (hx : x < 2 ^ k) (hc : c * 2 ^ k < 4294967296) (hx2 : x < 4294967296) : bits .or .u32 (x : Int) ((c * 2 ^ k : Nat) : Int) = ((x + c * 2 ^ k : Nat) : Int) := by
  rw [u32_or_nat x (c * 2 ^ k) hx2 hc]
  congr 1
  rw [Nat.or_comm, Nat.mul_comm, ← Nat.two_pow_add_eq_or_of_lt hx, Nat.add_comm]

theorem or_step (x c : Int) (k : Nat) (hk : k < 4) (h0 : 0 ≤ x) (hx : x < 256 ^ k) (hc0 : 0 ≤ c) (hc : c ≤ 255) :
    bits .or .u32 x (c % 4294967296 * 2 ^ (8 * k) % 4294967296) = x + 256 ^ k * c := by
  obtain ⟨X, rfl⟩ := Int.eq_ofNat_of_zero_le h0
  obtain ⟨C, rfl⟩ := Int.eq_ofNat_of_zero_le hc0
  have key : ∀ j : Nat, (X : Int) < 2 ^ j → 2 ^ j ≤ 16777216 → bits .or .u32 (X : Int) ((C : Int) % 4294967296 * 2 ^ j % 4294967296) = (X : Int) + 2 ^ j * (C : Int) := by
    intro j hj h16
    have hj' : X < 2 ^ j := by
      have : ((2 ^ j : Nat) : Int) = (2 : Int) ^ j := by simp
      omega
    have hC : C * 2 ^ j ≤ 255 * 2 ^ j := Nat.mul_le_mul_right _ (by omega)
    have e : ((C : Int) % 4294967296 * 2 ^ j % 4294967296) = ((C * 2 ^ j : Nat) : Int) := by
      have e1 : (C : Int) % 4294967296 = (C : Int) := Int.emod_eq_of_lt (by omega) (by omega)
      rw [e1]
      have e2 : (C : Int) * 2 ^ j = ((C * 2 ^ j : Nat) : Int) := by simp
      rw [e2, Int.emod_eq_of_lt (by omega) (by omega)]
    rw [e, or_nat X C j hj' (by omega) (by omega)]
    simp [Int.mul_comm]
  have e256 : (256 : Int) ^ k = 2 ^ (8 * k) := by rw [Int.pow_mul]; rfl
  rw [e256]
  refine key (8 * k) (by rw [← e256]; exact hx) ?_
  have : 2 ^ (8 * k) ≤ 2 ^ 24 := Nat.pow_le_pow_right (by decide) (by omega)
  simpa using this

theorem take_snoc (l : List Int) (k : Nat) (h : k < l.length) : l.take (k + 1) = l.take k ++ [l[k]] := List.take_succ_eq_append_getElem h

theorem num_step (cs : List Int) (k : Nat) (hlt : k < cs.length) (h4 : cs.length ≤ 4) (hB : Byt cs) :
    bits .or .u32 (numOf (cs.take k)) (cs[k] % 4294967296 * 2 ^ (8 * k) % 4294967296) = numOf (cs.take (k + 1)) := by
  have hb := numOf_bound (cs.take k) (fun x hx => hB x (List.mem_of_mem_take hx))
  have hl : (cs.take k).length = k := by simp; omega
  rw [hl] at hb
  have hc := hB cs[k] (List.getElem_mem hlt)
  rw [or_step _ _ k (by omega) hb.1 hb.2 hc.1 hc.2, take_snoc cs k hlt, numOf_snoc, hl]

/-- The signed number, half of whose range is h. -/
def sgn (h x : Int) : Int := if x < h then x else x - 2 * h

theorem sgn8 {x : Int} (h0 : 0 ≤ x) (h1 : x < 256) : IntKind.i8.wrap x = sgn 128 x := by
  simp only [IntKind.wrap, IntKind.bits, IntKind.signed, sgn, show ((2 : Int) ^ 8) = 256 from rfl, show ((2 : Int) ^ (8 - 1)) = 128 from rfl, Bool.true_and, decide_eq_true_eq, Int.emod_eq_of_lt h0 h1]
  split <;> split <;> omega
theorem sgn16 {x : Int} (h0 : 0 ≤ x) (h1 : x < 65536) : IntKind.i16.wrap x = sgn 32768 x := by
  simp only [IntKind.wrap, IntKind.bits, IntKind.signed, sgn, show ((2 : Int) ^ 16) = 65536 from rfl, show ((2 : Int) ^ (16 - 1)) = 32768 from rfl, Bool.true_and, decide_eq_true_eq, Int.emod_eq_of_lt h0 h1]
  split <;> split <;> omega
theorem sgn32 {x : Int} (h0 : 0 ≤ x) (h1 : x < 4294967296) : wrap32 x = sgn 2147483648 x := by unfold wrap32 sgn; split <;> omega
theorem ret_int {k : IntKind} {a b : Int} (h : a = b) : Ending.returned (.int k a) = .returned (.int k b) := by rw [h]
theorem numOf_le (l : List Int) (h : Byt l) (n : Nat) (hn : l.length ≤ n) : 0 ≤ numOf l ∧ numOf l < 256 ^ n := by
  have h1 := numOf_bound l h
  refine ⟨h1.1, Int.lt_of_lt_of_le h1.2 ?_⟩
  have h2 : 256 ^ l.length ≤ 256 ^ n := Nat.pow_le_pow_right (by decide) hn
  have h3 := Int.ofNat_le.2 h2
  simpa using h3

/-- A number's bytes, so many, the lowest first. -/
def low (x : Int) : Nat → List Int
  | 0 => []
  | n + 1 => x % 256 :: low (x / 256) n

theorem low_length (x : Int) (n : Nat) : (low x n).length = n := by
  induction n generalizing x with
  | zero => rfl
  | succ n ih => simp [low, ih]
theorem low_byt (x : Int) (n : Nat) : Byt (low x n) := by
  induction n generalizing x with
  | zero => intro y hy; cases hy
  | succ n ih =>
    intro y hy
    rcases List.mem_cons.1 hy with rfl | hy
    · omega
    · exact ih _ y hy
theorem low_snoc (x : Int) (n : Nat) : low x (n + 1) = low x n ++ [x / 256 ^ n % 256] := by
  induction n generalizing x with
  | zero => simp [low]
  | succ n ih =>
    rw [low, ih, low, List.cons_append, Int.pow_succ, Int.mul_comm (256 ^ n) 256, ← Int.ediv_ediv_of_nonneg (by omega)]

theorem set_mid (l : List Int) (m : Nat) (c : Int) (hm : 0 < m) : (l ++ List.replicate m 0).set l.length c = l ++ [c] ++ List.replicate (m - 1) 0 := by
  obtain ⟨j, rfl⟩ : ∃ j, m = j + 1 := ⟨m - 1, by omega⟩
  rw [List.set_append_right _ _ (Nat.le_refl _), Nat.sub_self, List.replicate_succ, List.set_cons_zero, Nat.add_sub_cancel, List.append_assoc]
  rfl
theorem low_mod16 (x : Int) : low (x % 65536) 2 = low x 2 := by
  simp only [low, List.cons.injEq, and_true]
  omega
end Go.Proofs.YtdcamcpffiilbaaDoor

/-
  Doubling a row of digits, and what is left of a part doubled seventeen times. Nothing here speaks of the program but the kind of its bytes.
-/
namespace Go.Proofs.YtdcamcpffiilbaaDoor
open Go.RowKit
set_option linter.unusedVariables false
set_option linter.unusedSimpArgs false

/-- Twice a row of digits, and what passes its head. -/
def dbl : List Int → List Int × Int
  | [] => ([], 0)
  | x :: l => ((48 + (2 * (x - 48) + (dbl l).2) % 10) :: (dbl l).1, (2 * (x - 48) + (dbl l).2) / 10)
def valI : List Int → Int
  | [] => 0
  | x :: l => (x - 48) * 10 ^ l.length + valI l
def Digs (l : List Int) : Prop := ∀ x ∈ l, 48 ≤ x ∧ x ≤ 57

theorem dbl_facts (l : List Int) (h : Digs l) : (dbl l).1.length = l.length ∧ Digs (dbl l).1 ∧ 0 ≤ (dbl l).2 ∧ (dbl l).2 ≤ 1 ∧ 2 * valI l = (dbl l).2 * 10 ^ l.length + valI (dbl l).1 := by
  induction l with
  | nil => simp [dbl, valI, Digs]
  | cons x l ih =>
    obtain ⟨h1, h2, h3, h4, h5⟩ := ih (fun y hy => h y (by simp [hy]))
    have hx := h x (by simp)
    simp only [dbl, valI, List.length_cons, h1]
    generalize (dbl l).2 = c at *
    generalize (dbl l).1 = l' at *
    refine ⟨trivial, ?_, by omega, by omega, ?_⟩
    · intro y hy
      rcases List.mem_cons.1 hy with rfl | hy
      · omega
      · exact h2 y hy
    · rw [Int.mul_add, h5]
      have e : (10 : Int) ^ (l.length + 1) = 10 * 10 ^ l.length := by rw [Int.pow_succ, Int.mul_comm]
      rw [e]
      generalize (10 : Int) ^ l.length = T
      have k : 2 * (x - 48) + c = 10 * ((2 * (x - 48) + c) / 10) + (2 * (x - 48) + c) % 10 := by omega
      generalize (2 * (x - 48) + c) / 10 = q at *
      generalize (2 * (x - 48) + c) % 10 = r at *
      have k2 : (2 * (x - 48) + c) * T = (10 * q + r) * T := by rw [k]
      have k3 : 48 + r - 48 = r := by omega
      rw [k3]
      simp only [Int.add_mul, Int.mul_assoc, Int.sub_mul] at k2 ⊢
      have k4 : q * (10 * T) = 10 * (q * T) := by rw [Int.mul_left_comm]
      rw [k4]
      omega
theorem valI_bounds (l : List Int) (h : Digs l) : 0 ≤ valI l ∧ valI l < 10 ^ l.length := by
  induction l with
  | nil => simp [valI]
  | cons x l ih =>
    obtain ⟨h1, h2⟩ := ih (fun y hy => h y (by simp [hy]))
    have hx := h x (by simp)
    simp only [valI, List.length_cons]
    have e : (10 : Int) ^ (l.length + 1) = 10 * 10 ^ l.length := by rw [Int.pow_succ, Int.mul_comm]
    rw [e]
    generalize (10 : Int) ^ l.length = T at *
    have a := Int.mul_nonneg (show 0 ≤ x - 48 by omega) (show 0 ≤ T by omega)
    have b := Int.mul_le_mul_of_nonneg_right (show x - 48 ≤ 9 by omega) (show 0 ≤ T by omega)
    omega
/-- The bytes of a text, as numbers. -/
def nums (l : List UInt8) : List Int := l.map fun c => (c.toNat : Int)
theorem nums_digs {l : List UInt8} (h : ∀ c ∈ l, isDig c) : Digs (nums l) := by
  intro x hx
  obtain ⟨c, hc, rfl⟩ := List.mem_map.1 hx
  have := h c hc
  unfold isDig at this
  omega
theorem valI_nums (l : List UInt8) (h : ∀ c ∈ l, isDig c) : valI (nums l) = (valN l : Int) := by
  induction l with
  | nil => rfl
  | cons c l ih =>
    have hc := h c (by simp)
    unfold isDig at hc
    have e := ih (fun x hx => h x (by simp [hx]))
    simp only [nums, List.map_cons, valI, valN] at e ⊢
    rw [e]
    have hs : ((c.toNat : Int) - 48) = ((c.toNat - 48 : Nat) : Int) := by omega
    rw [hs]
    simp
/-- What the seventeen doublings leave, to the nearest. -/
def rawHalf (A B : List UInt8) : Int := (131072 * nfold A 0 + ((valN B * 131072 / 10 ^ B.length : Nat) : Int) + 1) / 2
/-- The relation of the doublings: j of them done. -/
def Dbl (n : Int) (f0 : List Int) (j : Nat) (f : List Int) (raw : Int) : Prop := Digs f ∧ f.length = f0.length ∧ raw * 10 ^ f0.length + valI f = 2 ^ j * (n * 10 ^ f0.length + valI f0)
theorem Dbl.step {n : Int} {f0 f : List Int} {j : Nat} {raw : Int} (h : Dbl n f0 j f raw) : Dbl n f0 (j + 1) (dbl f).1 (2 * raw + (dbl f).2) := by
  obtain ⟨h1, h2, h3⟩ := h
  obtain ⟨k1, k2, _, _, k5⟩ := dbl_facts f h1
  refine ⟨k2, k1.trans h2, ?_⟩
  have e : (2 : Int) ^ (j + 1) = 2 * 2 ^ j := by rw [Int.pow_succ, Int.mul_comm]
  rw [e, Int.mul_assoc, ← h3, h2] at *
  rw [Int.mul_add, k5, Int.add_mul, Int.mul_assoc]
  omega
theorem Dbl.bound {n : Int} {f0 f : List Int} {j : Nat} {raw : Int} (h : Dbl n f0 j f raw) (hd : Digs f0) (hn : 0 ≤ n ∧ n ≤ 1048576) (hj : j ≤ 17) : 0 ≤ raw ∧ raw ≤ 137439084544 := by
  obtain ⟨h1, h2, h3⟩ := h
  have hv := valI_bounds f h1
  have hv0 := valI_bounds f0 hd
  rw [h2] at hv
  have hT : (0 : Int) < 10 ^ f0.length := Int.pow_pos (by omega)
  have h2j : (2 : Int) ^ j ≤ 131072 := by
    have := Nat.pow_le_pow_right (n := 2) (by omega) hj
    have e : ((2 ^ j : Nat) : Int) ≤ ((2 ^ 17 : Nat) : Int) := by omega
    simpa using e
  have h2p : (0 : Int) < 2 ^ j := Int.pow_pos (by omega)
  generalize (10 : Int) ^ f0.length = T at *
  generalize (2 : Int) ^ j = J at *
  have a1 : n * T ≤ 1048576 * T := Int.mul_le_mul_of_nonneg_right hn.2 (by omega)
  have a0 : 0 ≤ n * T := Int.mul_nonneg hn.1 (by omega)
  have a2 : J * (n * T + valI f0) ≤ 131072 * (n * T + valI f0) := Int.mul_le_mul_of_nonneg_right h2j (by omega)
  have a3 : 0 ≤ J * (n * T + valI f0) := Int.mul_nonneg (by omega) (by omega)
  constructor
  · refine Int.not_lt.1 fun hneg => ?_
    have : raw * T ≤ -1 * T := Int.mul_le_mul_of_nonneg_right (by omega) (by omega)
    omega
  · refine Int.not_lt.1 fun hbig => ?_
    have : 137439084545 * T ≤ raw * T := Int.mul_le_mul_of_nonneg_right (by omega) (by omega)
    omega
theorem Dbl.done {n : Int} {B : List UInt8} {f : List Int} {raw : Int} (h : Dbl n (nums B) 17 f raw) (hd : ∀ c ∈ B, isDig c) : raw = 131072 * n + ((valN B * 131072 / 10 ^ B.length : Nat) : Int) := by
  obtain ⟨h1, h2, h3⟩ := h
  have hv := valI_bounds f h1
  rw [h2] at hv
  have hl : (nums B).length = B.length := by simp [nums]
  rw [hl] at hv h3
  rw [valI_nums B hd] at h3
  have hT : (0 : Int) < 10 ^ B.length := Int.pow_pos (by omega)
  have e1 : (((valN B * 131072 / 10 ^ B.length : Nat)) : Int) = ((valN B : Int) * 131072) / 10 ^ B.length := by simp
  rw [e1]
  have e2 : raw = (raw * 10 ^ B.length + valI f) / 10 ^ B.length := by
    rw [Int.add_comm, Int.add_mul_ediv_right _ _ (by omega), Int.ediv_eq_zero_of_lt hv.1 hv.2]
    omega
  rw [e2, h3, Int.mul_add, show (2 : Int) ^ 17 * (n * 10 ^ B.length) = 131072 * n * 10 ^ B.length by rw [← Int.mul_assoc]; rfl, Int.add_comm, Int.add_mul_ediv_right _ _ (by omega)]
  rw [show (2 : Int) ^ 17 * (valN B : Int) = (valN B : Int) * 131072 by rw [Int.mul_comm]; rfl]
  omega

/-- The block g holds the bytes fs, and they may be written. -/
def Byts (w : World) (g : Nat) (fs : List Int) : Prop := (∀ i (h : i < fs.length), w.cell? ⟨g, i, none⟩ = some (.int .u8 fs[i])) ∧ ∀ i, i < fs.length → w.frozen? ⟨g, i, none⟩ = false
theorem Byts.set {w : World} {g : Nat} {fs : List Int} (h : Byts w g fs) (j : Nat) (u : Int) (hj : j < fs.length) : Byts (w.setCell ⟨g, j, none⟩ (.int .u8 u)) g (fs.set j u) := by
  refine ⟨fun i hi => ?_, fun i hi => ?_⟩
  · rw [List.length_set] at hi
    by_cases e : j = i
    · subst e
      rw [World.cell?_setCell_same _ _ _ (h.1 j hj)]
      simp
    · rw [World.cell?_setCell_other _ _ _ _ (by simp [e]), h.1 i hi]
      simp [e]
  · rw [List.length_set] at hi
    rw [World.frozen?_setCell]
    exact h.2 i hi
theorem Byts.drewN {w : World} {g : Nat} {fs : List Int} (h : Byts w g fs) (n : Nat) : Byts (w.drewN n) g fs := h
/-- What the bytes of a text become. -/
theorem Byts.new (w : World) (B : List UInt8) (cap : Nat) (e : TypeId) : Byts (w.drew.alloc (.cells (bytesRow ⟨B.toArray⟩ cap) e ((bytesRow ⟨B.toArray⟩ cap).size, (bytesRow ⟨B.toArray⟩ cap).size + 1))) w.heap.size (nums B) := by
  have hh : (w.drew.alloc (.cells (bytesRow ⟨B.toArray⟩ cap) e ((bytesRow ⟨B.toArray⟩ cap).size, (bytesRow ⟨B.toArray⟩ cap).size + 1))).heap[w.heap.size]? = some (.cells (bytesRow ⟨B.toArray⟩ cap) e ((bytesRow ⟨B.toArray⟩ cap).size, (bytesRow ⟨B.toArray⟩ cap).size + 1)) := heap_alloc_new w.drew _
  have hsz : B.length ≤ (bytesRow ⟨B.toArray⟩ cap).size := by simp [bytesRow]
  have hl : (nums B).length = B.length := by simp [nums]
  refine ⟨fun i hi => ?_, fun i hi => ?_⟩
  · rw [hl] at hi
    simp only [World.cell?, hh]
    simp only [bytesRow, nums]
    rw [if_neg (by decide), Array.getElem?_append_left (by simp; omega)]
    simp [hi]
  · rw [hl] at hi
    simp only [World.frozen?, hh]
    simp
    omega
theorem below_set {B : Nat} {w w1 : World} (h : Below B w w1) (hB : B ≤ w1.heap.size) (g i : Nat) (v : Value) (hg : B ≤ g) : Below B w (w1.setCell ⟨g, i, none⟩ v) := below_grown h (grownBy_set w1 g i v) hB hg
theorem dbl_set (f : List Int) (k : Nat) (hk : k < f.length) : (f.take (k + 1) ++ (dbl (f.drop (k + 1))).1).set k (48 + (2 * (f[k] - 48) + (dbl (f.drop (k + 1))).2) % 10) = f.take k ++ (dbl (f.drop k)).1 := by
  have e : f.drop k = f[k] :: f.drop (k + 1) := List.drop_eq_getElem_cons hk
  rw [e]
  simp only [dbl]
  rw [List.take_succ_eq_append_getElem hk, List.append_assoc, List.set_append_right _ _ (by simp; omega)]
  simp [Nat.min_eq_left (Nat.le_of_lt hk)]
theorem dbl_carry (f : List Int) (k : Nat) (hk : k < f.length) : (dbl (f.drop k)).2 = (2 * (f[k] - 48) + (dbl (f.drop (k + 1))).2) / 10 := by
  have e : f.drop k = f[k] :: f.drop (k + 1) := List.drop_eq_getElem_cons hk
  rw [e]
  rfl
theorem head_nw (A : List UInt8) (hA : ∀ c ∈ A, isDig c) (hk : A ≠ []) : ∃ c0, A[0]? = some c0 ∧ c0 ≠ 45 := by
  match A, hk with
  | c :: l, _ => exact ⟨c, rfl, (dig_ne (hA c (by simp))).1⟩
theorem head_np (A B : List UInt8) (hA : ∀ c ∈ A, isDig c) : ∃ c0, (A ++ 46 :: B)[0]? = some c0 ∧ c0 ≠ 45 := by
  match A with
  | [] => exact ⟨46, rfl, by decide⟩
  | c :: l => exact ⟨c, rfl, (dig_ne (hA c (by simp))).1⟩
end Go.Proofs.YtdcamcpffiilbaaDoor

/-
  The walk of the document's Parse at a number's text: with a minus, with a point.
-/
namespace Go.Proofs.YtdcamcpffiilbaaDoor
open Go.RowKit
set_option linter.unusedSimpArgs false
set_option linter.unusedVariables false

set_option maxHeartbeats 4000000 in
theorem refParse_mp (A B : List UInt8) (w : World) (hA : ∀ c ∈ A, isDig c) (hB : ∀ c ∈ B, isDig c) (hk : A.length + B.length ≠ 0) (hlen : (45 :: (A ++ 46 :: B)).length ≤ 40) :
    Calls Tryd.prog 58 #[.string ⟨((45 :: (A ++ 46 :: B)) : List UInt8).toArray⟩] w fun e w' => e = .returned (.tuple #[.int .i32 (rawI (-rawHalf A B)), .int .i64 0]) ∧ Ext w w' := by
  have hlook : Hid (look (A ++ 46 :: B) 0 (-1) 0 = some ((A.length : Int), A.length + B.length)) := by
    show _ = _
    rw [look_digs _ _ _ _ _ hA, look, if_neg (by decide), if_pos ⟨rfl, by omega⟩, ← List.append_nil B, look_digs _ _ _ _ _ hB]
    simp [look]
  have hbl : (A ++ 46 :: B).length ≤ 40 := by simp at hlen ⊢; omega
  have hbs : (⟨(A ++ 46 :: B).toArray⟩ : ByteArray).size = (A ++ 46 :: B).length := Lib.size_mk _
  have hls : (⟨((45 :: (A ++ 46 :: B)) : List UInt8).toArray⟩ : ByteArray).size = ((45 :: (A ++ 46 :: B)) : List UInt8).length := Lib.size_mk _
  generalize hbe : (A ++ 46 :: B) = b at *
  have HBE := hide hbe
  clear hbe
  go_enter Tryd.func58, Tryd.ntmps58
  have h40 : ((b.length : Int) + 1) ≤ 40 := by simp at hlen; omega
  have hcut : (⟨(45 :: b).toArray⟩ : ByteArray).extract 1 (b.length + 1) = ⟨b.toArray⟩ := by rw [Lib.extract_mk, List.take_of_length_le (by simp)]; rfl
  have hat0 : ∀ h, (⟨(45 :: b).toArray⟩ : ByteArray)[0]'h = 45 := fun h => rfl
  clear hlen
  go_wp2
  go_loop [5, 6, 32] (fun p k i => ∃ (j : Nat) (pt : Int) (cn : Nat), p = .int .i64 pt ∧ k = .int .i64 cn ∧ i = .int .i64 j ∧ j ≤ b.length ∧ -1 ≤ pt ∧ pt < j ∧ cn ≤ j ∧ look (b.drop j) j pt cn = look b 0 (-1) 0) (fun _ _ i => b.length - (intOf i).toNat)
  case atStart => exact ⟨0, -1, 0, rfl, rfl, rfl, by omega, by omega, by omega, by omega, rfl⟩
  case round =>
    obtain ⟨j, pt, cn, rfl, rfl, rfl, hj, hp1, hp2, hcn, hl⟩ := hrel
    have HL := hide hl
    clear hl
    by_cases hlt : j < b.length
    · obtain ⟨c, hc, hdrop⟩ : ∃ c, b[j]? = some c ∧ b.drop j = c :: b.drop (j + 1) := ⟨b[j], by simp [hlt], List.drop_eq_getElem_cons hlt⟩
      have hat : ∀ h, (⟨b.toArray⟩ : ByteArray)[j]'h = c := by
        intro h
        have := Lib.getElem_mk b j h
        rw [hc] at this
        exact (Option.some.inj this).symm
      have hdr := hide hdrop
      clear hc hdrop
      by_cases hdig : 48 ≤ c.toNat ∧ c.toNat ≤ 57
      · have t1 : decide ((48 : Int) ≤ (c.toNat : Int)) = true := by simp; omega
        have t2 : decide ((c.toNat : Int) ≤ 57) = true := by simp; omega
        have K := hide hdig
        clear hdig
        go_wp2
        go_round
        case rel =>
          refine ⟨j + 1, pt, cn + 1, rfl, by simp, by simp, by omega, by omega, by omega, by omega, ?_⟩
          rw [← unhide HL, unhide hdr, look, if_pos (unhide K)]
        case measure => simp [intOf]; omega
      · by_cases hpt : c = 46 ∧ pt < 0
        · have t1 : decide ((48 : Int) ≤ (c.toNat : Int)) = false := by rw [hpt.1]; rfl
          have t3 : ((c.toNat : Int) == 46) = true := by rw [hpt.1]; rfl
          have t4 : decide (pt < 0) = true := by simp; omega
          have K := hide (And.intro hdig hpt)
          clear hdig hpt
          go_wp2
          go_round
          case rel =>
            refine ⟨j + 1, j, cn, rfl, rfl, by simp, by omega, by omega, by omega, by omega, ?_⟩
            rw [← unhide HL, unhide hdr, look, if_neg (unhide K).1, if_pos (unhide K).2]
          case measure => simp [intOf]; omega
        · exfalso
          have h := unhide HL
          rw [unhide hdr, look, if_neg hdig, if_neg hpt, unhide hlook] at h
          cases h
    · have hjl : j = b.length := by omega
      subst hjl
      have h := unhide HL
      rw [List.drop_length, look, unhide hlook] at h
      obtain ⟨hpt, hcn2⟩ := Prod.mk.inj (Option.some.inj h)
      subst hpt
      subst hcn2
      clear h HL hlook
      have hblen : b.length = A.length + 1 + B.length := by rw [← unhide HBE]; simp; omega
      have hexA : (⟨b.toArray⟩ : ByteArray).extract 0 A.length = ⟨A.toArray⟩ := by rw [Lib.extract_mk, ← unhide HBE]; simp
      have hexB : (⟨b.toArray⟩ : ByteArray).extract (A.length + 1) b.length = ⟨B.toArray⟩ := by
        rw [Lib.extract_mk, hblen, List.take_of_length_le (by rw [List.length_drop, hblen]; omega), ← unhide HBE]
        have e : (A ++ 46 :: B) = (A ++ [46]) ++ B := by simp
        rw [e, List.drop_left' (by simp)]
      rw [hblen] at hexB
      have tk : (((A.length : Int) + (B.length : Int)) == 0) = false := by simp; omega
      have tp : decide ((0 : Int) ≤ (A.length : Int)) = true := by simp
      go_wp2
      go_quiet (fail)
      have hAs : (⟨A.toArray⟩ : ByteArray).size = A.length := Lib.size_mk _
      have hAl : A.length ≤ 40 := by omega
      go_wp2
      go_loop [10, 73] (fun n i => ∃ (j : Nat) (v : Int), n = .int .i64 v ∧ i = .int .i64 j ∧ j ≤ A.length ∧ 0 ≤ v ∧ v ≤ 1048576 ∧ nfold (A.drop j) v = nfold A 0) (fun _ i => A.length - (intOf i).toNat)
      case atStart => exact ⟨0, 0, rfl, rfl, by omega, by omega, by omega, rfl⟩
      case round =>
        obtain ⟨j, v, rfl, rfl, hj, hv0, hv1, hn⟩ := hrel
        have HN := hide hn
        clear hn
        by_cases hlt : j < A.length
        · obtain ⟨c, hc, hdrop⟩ : ∃ c, A[j]? = some c ∧ A.drop j = c :: A.drop (j + 1) := ⟨A[j], by simp [hlt], List.drop_eq_getElem_cons hlt⟩
          have hat : ∀ h, (⟨A.toArray⟩ : ByteArray)[j]'h = c := by
            intro h
            have := Lib.getElem_mk A j h
            rw [hc] at this
            exact (Option.some.inj this).symm
          have hd := hA c (List.mem_of_getElem? hc)
          unfold isDig at hd
          have hdr := hide hdrop
          clear hc hdrop
          go_wp2
          go_round
          case rel =>
            refine ⟨j + 1, min (10 * v + ((c.toNat : Int) - 48)) 1048576, (by first | rfl | (congr 1; omega)), by simp, by omega, by omega, by omega, ?_⟩
            rw [← unhide HN, unhide hdr, nfold]
          case measure => simp [intOf]; omega
        · have hjl : j = A.length := by omega
          subst hjl
          have hn := unhide HN
          rw [List.drop_length, nfold] at hn
          have HNN := hide hn
          clear hn HN
          have hBs : (⟨B.toArray⟩ : ByteArray).size = B.length := Lib.size_mk _
          have hcv := run_bytes_of_string (P := Tryd.prog) (w.drewN nq) 9 87 5 ⟨B.toArray⟩ Tryd.underlying9 Tryd.underlying87 Tryd.underlying5
          have hby := Byts.new (w.drewN nq) B (grownCap (w.drewN nq) (⟨B.toArray⟩ : ByteArray).size 0 5) 5
          have hx2 : Ext w ((w.drewN nq).drew.alloc (.cells (bytesRow ⟨B.toArray⟩ (grownCap (w.drewN nq) (⟨B.toArray⟩ : ByteArray).size 0 5)) 5 ((bytesRow ⟨B.toArray⟩ (grownCap (w.drewN nq) (⟨B.toArray⟩ : ByteArray).size 0 5)).size, (bytesRow ⟨B.toArray⟩ (grownCap (w.drewN nq) (⟨B.toArray⟩ : ByteArray).size 0 5)).size + 1))) := (((Ext.refl w).drewN nq).drew).alloc _
          have hgs2 : w.heap.size < ((w.drewN nq).drew.alloc (.cells (bytesRow ⟨B.toArray⟩ (grownCap (w.drewN nq) (⟨B.toArray⟩ : ByteArray).size 0 5)) 5 ((bytesRow ⟨B.toArray⟩ (grownCap (w.drewN nq) (⟨B.toArray⟩ : ByteArray).size 0 5)).size, (bytesRow ⟨B.toArray⟩ (grownCap (w.drewN nq) (⟨B.toArray⟩ : ByteArray).size 0 5)).size + 1))).heap.size := by simp
          rw [hBs] at hcv hby hx2 hgs2
          generalize grownCap (w.drewN nq) B.length 0 5 = cap at *
          generalize (w.drewN nq).drew.alloc (.cells (bytesRow ⟨B.toArray⟩ cap) 5 ((bytesRow ⟨B.toArray⟩ cap).size, (bytesRow ⟨B.toArray⟩ cap).size + 1)) = w2 at *
          have H2 := hide (And.intro hby (And.intro hx2 hgs2))
          clear hby hx2 hgs2
          have hBl : B.length ≤ 40 := by first | omega | simp
          have hnB : (nums B).length = B.length := by simp [nums]
          have hdB := hide (nums_digs (l := B) hB)
          go_wp2
          go_loopw [13, 89] (fun r i wr => ∃ (j : Nat) (raw : Int) (f : List Int), r = .int .i64 raw ∧ i = .int .i64 j ∧ j ≤ 17 ∧ Byts wr w.heap.size f ∧ Dbl v (nums B) j f raw ∧ Ext w wr ∧ w.heap.size < wr.heap.size) (fun _ i _ => 17 - (intOf i).toNat)
          case atStart => exact ⟨0, v, nums B, rfl, rfl, by omega, (unhide H2).1, ⟨unhide hdB, rfl, by simp⟩, (unhide H2).2.1, (unhide H2).2.2⟩
          case round =>
            obtain ⟨j, raw, f, rfl, rfl, hj, hby, hdb, hx, hgs⟩ := hrel
            have hrb := hdb.bound (unhide hdB) ⟨hv0, hv1⟩ hj
            have hfl : f.length = B.length := hdb.2.1.trans hnB
            by_cases h17 : j < 17
            · have t17 : decide ((j : Int) < 17) = true := by simp; omega
              have HD := hide hdb
              have H3 := hide (And.intro hby (And.intro hx hgs))
              clear hby hdb hx hgs H2
              go_wp2
              go_loopw [14, 15] (fun c i wq => ∃ k : Nat, k ≤ f.length ∧ i = .int .i64 ((k : Int) - 1) ∧ c = .int .u8 (dbl (f.drop k)).2 ∧ Byts wq w.heap.size (f.take k ++ (dbl (f.drop k)).1) ∧ Ext w wq ∧ w.heap.size < wq.heap.size) (fun _ i _ => (intOf i + 1).toNat)
              case atStart =>
                obtain ⟨hby, hx, hgs⟩ := unhide H3
                refine ⟨f.length, by omega, by simp [hfl], by simp [dbl], ?_, hx, hgs⟩
                rw [List.drop_length, List.take_length]
                simpa [dbl] using hby
              case round =>
                obtain ⟨k, hk, rfl, rfl, hby, hx, hgs⟩ := hrel
                by_cases hk0 : k = 0
                · subst hk0
                  have tge : decide ((0 : Int) ≤ ((0 : Nat) : Int) - 1) = false := by decide
                  rw [List.drop_zero, List.take_zero, List.nil_append] at hby
                  rw [List.drop_zero]
                  have hcr := (dbl_facts f (unhide HD).1).2.2
                  have hc0 := hcr.1
                  have hc1 := hcr.2.1
                  clear hcr
                  have H4 := hide (And.intro hby (And.intro hx hgs))
                  clear hby hx hgs H3
                  go_wp2
                  go_roundw
                  case rel =>
                    obtain ⟨hby, hx, hgs⟩ := unhide H4
                    exact ⟨j + 1, 2 * raw + (dbl f).2, (dbl f).1, rfl, by simp, by omega, hby, (unhide HD).step, hx, hgs⟩
                  case measure => simp [intOf]; omega
                · obtain ⟨q, rfl⟩ : ∃ q, k = q + 1 := ⟨k - 1, by omega⟩
                  have hqi : (((q + 1 : Nat) : Int) - 1) = (q : Int) := by omega
                  rw [hqi]
                  have tge : decide ((0 : Int) ≤ (q : Int)) = true := by simp
                  have hqf : q < f.length := by omega
                  have hql : q < (f.take (q + 1) ++ (dbl (f.drop (q + 1))).1).length := by simp; omega
                  have hcell := hby.1 q hql
                  have hfz := hby.2 q hql
                  have hget : (f.take (q + 1) ++ (dbl (f.drop (q + 1))).1)[q] = f[q] := by
                    rw [List.getElem_append_left (by simp; omega)]
                    simp
                  rw [hget] at hcell
                  have hdq := (unhide HD).1 f[q] (List.getElem_mem hqf)
                  have hcr := (dbl_facts (f.drop (q + 1)) (fun y hy => (unhide HD).1 y (List.mem_of_mem_drop hy))).2.2
                  have hc0 := hcr.1
                  have hc1 := hcr.2.1
                  have hst := hide (hby.set q (48 + (2 * (f[q] - 48) + (dbl (f.drop (q + 1))).2) % 10) hql)
                  have hds := hide (dbl_set f q hqf)
                  have hdc := hide (dbl_carry f q hqf)
                  have H4 := hide (And.intro hx hgs)
                  clear hby hx hgs H3 hcr hget
                  generalize f[q] = x at *
                  generalize (dbl (f.drop (q + 1))).2 = cy at *
                  go_wp2
                  go_roundw
                  case rel =>
                    obtain ⟨hx, hgs⟩ := unhide H4
                    refine ⟨q, by omega, by simp, by rw [unhide hdc], ?_, below_set hx (Nat.le_of_lt hgs) _ _ _ (Nat.le_refl _), by simpa using hgs⟩
                    rw [← unhide hds]
                    exact unhide hst
                  case measure => simp [intOf]
            · have hj17 : j = 17 := by omega
              subst hj17
              have hraw := hide (hdb.done hB)
              have H4 := hide hx
              clear hby hdb hx hgs H2
              have hh : 0 ≤ (raw + 1) / 2 ∧ (raw + 1) / 2 ≤ 137439084544 := by omega
              go_wp2_with fail
              refine (refRaw_any _ _ (by unfold I64; omega)).mono ?_
              rintro e w5 ⟨rfl, rfl⟩
              go_wp2
              refine bodyPost_ret (v := .tuple #[.int .i32 (rawI (-((raw + 1) / 2))), .int .i64 0]) (by simp [results, Tryd.results58, go_sem]) rfl ⟨?_, unhide H4⟩
              rw [unhide hraw, unhide HNN]
              rfl
end Go.Proofs.YtdcamcpffiilbaaDoor

/-
  The walk of the document's Parse at a number's text: with a minus, without a point.
-/
namespace Go.Proofs.YtdcamcpffiilbaaDoor
open Go.RowKit
set_option linter.unusedSimpArgs false
set_option linter.unusedVariables false

set_option maxHeartbeats 4000000 in
theorem refParse_mw (b : List UInt8) (w : World) (hA : ∀ c ∈ b, isDig c) (hk : b ≠ []) (hlen : (45 :: (b)).length ≤ 40) :
    Calls Tryd.prog 58 #[.string ⟨((45 :: (b)) : List UInt8).toArray⟩] w fun e w' => e = .returned (.tuple #[.int .i32 (rawI (-rawHalf b ([] : List UInt8))), .int .i64 0]) ∧ Ext w w' := by
  have hlook : Hid (look (b) 0 (-1) 0 = some (-1, b.length)) := by
    show _ = _
    have h := look_digs b [] 0 (-1) 0 hA
    rw [List.append_nil] at h
    rw [h]
    simp [look]
  have hbl : (b).length ≤ 40 := by simp at hlen ⊢; omega
  have hbs : (⟨(b).toArray⟩ : ByteArray).size = (b).length := Lib.size_mk _
  have hls : (⟨((45 :: (b)) : List UInt8).toArray⟩ : ByteArray).size = ((45 :: (b)) : List UInt8).length := Lib.size_mk _
  go_enter Tryd.func58, Tryd.ntmps58
  have h40 : ((b.length : Int) + 1) ≤ 40 := by simp at hlen; omega
  have hcut : (⟨(45 :: b).toArray⟩ : ByteArray).extract 1 (b.length + 1) = ⟨b.toArray⟩ := by rw [Lib.extract_mk, List.take_of_length_le (by simp)]; rfl
  have hat0 : ∀ h, (⟨(45 :: b).toArray⟩ : ByteArray)[0]'h = 45 := fun h => rfl
  clear hlen
  go_wp2
  go_loop [5, 6, 32] (fun p k i => ∃ (j : Nat) (pt : Int) (cn : Nat), p = .int .i64 pt ∧ k = .int .i64 cn ∧ i = .int .i64 j ∧ j ≤ b.length ∧ -1 ≤ pt ∧ pt < j ∧ cn ≤ j ∧ look (b.drop j) j pt cn = look b 0 (-1) 0) (fun _ _ i => b.length - (intOf i).toNat)
  case atStart => exact ⟨0, -1, 0, rfl, rfl, rfl, by omega, by omega, by omega, by omega, rfl⟩
  case round =>
    obtain ⟨j, pt, cn, rfl, rfl, rfl, hj, hp1, hp2, hcn, hl⟩ := hrel
    have HL := hide hl
    clear hl
    by_cases hlt : j < b.length
    · obtain ⟨c, hc, hdrop⟩ : ∃ c, b[j]? = some c ∧ b.drop j = c :: b.drop (j + 1) := ⟨b[j], by simp [hlt], List.drop_eq_getElem_cons hlt⟩
      have hat : ∀ h, (⟨b.toArray⟩ : ByteArray)[j]'h = c := by
        intro h
        have := Lib.getElem_mk b j h
        rw [hc] at this
        exact (Option.some.inj this).symm
      have hdr := hide hdrop
      clear hc hdrop
      by_cases hdig : 48 ≤ c.toNat ∧ c.toNat ≤ 57
      · have t1 : decide ((48 : Int) ≤ (c.toNat : Int)) = true := by simp; omega
        have t2 : decide ((c.toNat : Int) ≤ 57) = true := by simp; omega
        have K := hide hdig
        clear hdig
        go_wp2
        go_round
        case rel =>
          refine ⟨j + 1, pt, cn + 1, rfl, by simp, by simp, by omega, by omega, by omega, by omega, ?_⟩
          rw [← unhide HL, unhide hdr, look, if_pos (unhide K)]
        case measure => simp [intOf]; omega
      · by_cases hpt : c = 46 ∧ pt < 0
        · have t1 : decide ((48 : Int) ≤ (c.toNat : Int)) = false := by rw [hpt.1]; rfl
          have t3 : ((c.toNat : Int) == 46) = true := by rw [hpt.1]; rfl
          have t4 : decide (pt < 0) = true := by simp; omega
          have K := hide (And.intro hdig hpt)
          clear hdig hpt
          go_wp2
          go_round
          case rel =>
            refine ⟨j + 1, j, cn, rfl, rfl, by simp, by omega, by omega, by omega, by omega, ?_⟩
            rw [← unhide HL, unhide hdr, look, if_neg (unhide K).1, if_pos (unhide K).2]
          case measure => simp [intOf]; omega
        · exfalso
          have h := unhide HL
          rw [unhide hdr, look, if_neg hdig, if_neg hpt, unhide hlook] at h
          cases h
    · have hjl : j = b.length := by omega
      subst hjl
      have h := unhide HL
      rw [List.drop_length, look, unhide hlook] at h
      obtain ⟨hpt, hcn2⟩ := Prod.mk.inj (Option.some.inj h)
      subst hpt
      subst hcn2
      clear h HL hlook
      have tk : ((b.length : Int) == 0) = false := by simpa using hk
      have hAs : (⟨b.toArray⟩ : ByteArray).size = b.length := Lib.size_mk _
      have hAl : b.length ≤ 40 := by omega
      go_wp2
      go_loop [10, 73] (fun n i => ∃ (j : Nat) (v : Int), n = .int .i64 v ∧ i = .int .i64 j ∧ j ≤ b.length ∧ 0 ≤ v ∧ v ≤ 1048576 ∧ nfold (b.drop j) v = nfold b 0) (fun _ i => b.length - (intOf i).toNat)
      case atStart => exact ⟨0, 0, rfl, rfl, by omega, by omega, by omega, rfl⟩
      case round =>
        obtain ⟨j, v, rfl, rfl, hj, hv0, hv1, hn⟩ := hrel
        have HN := hide hn
        clear hn
        by_cases hlt : j < b.length
        · obtain ⟨c, hc, hdrop⟩ : ∃ c, b[j]? = some c ∧ b.drop j = c :: b.drop (j + 1) := ⟨b[j], by simp [hlt], List.drop_eq_getElem_cons hlt⟩
          have hat : ∀ h, (⟨b.toArray⟩ : ByteArray)[j]'h = c := by
            intro h
            have := Lib.getElem_mk b j h
            rw [hc] at this
            exact (Option.some.inj this).symm
          have hd := hA c (List.mem_of_getElem? hc)
          unfold isDig at hd
          have hdr := hide hdrop
          clear hc hdrop
          go_wp2
          go_round
          case rel =>
            refine ⟨j + 1, min (10 * v + ((c.toNat : Int) - 48)) 1048576, (by first | rfl | (congr 1; omega)), by simp, by omega, by omega, by omega, ?_⟩
            rw [← unhide HN, unhide hdr, nfold]
          case measure => simp [intOf]; omega
        · have hjl : j = b.length := by omega
          subst hjl
          have hn := unhide HN
          rw [List.drop_length, nfold] at hn
          have HNN := hide hn
          clear hn HN
          have hBs : (⟨([] : List UInt8).toArray⟩ : ByteArray).size = ([] : List UInt8).length := Lib.size_mk _
          have hcv := run_bytes_of_string (P := Tryd.prog) w 9 87 5 ⟨([] : List UInt8).toArray⟩ Tryd.underlying9 Tryd.underlying87 Tryd.underlying5
          have hby := Byts.new w ([] : List UInt8) (grownCap w (⟨([] : List UInt8).toArray⟩ : ByteArray).size 0 5) 5
          have hx2 : Ext w (w.drew.alloc (.cells (bytesRow ⟨([] : List UInt8).toArray⟩ (grownCap w (⟨([] : List UInt8).toArray⟩ : ByteArray).size 0 5)) 5 ((bytesRow ⟨([] : List UInt8).toArray⟩ (grownCap w (⟨([] : List UInt8).toArray⟩ : ByteArray).size 0 5)).size, (bytesRow ⟨([] : List UInt8).toArray⟩ (grownCap w (⟨([] : List UInt8).toArray⟩ : ByteArray).size 0 5)).size + 1))) := ((Ext.refl w).drew).alloc _
          have hgs2 : w.heap.size < (w.drew.alloc (.cells (bytesRow ⟨([] : List UInt8).toArray⟩ (grownCap w (⟨([] : List UInt8).toArray⟩ : ByteArray).size 0 5)) 5 ((bytesRow ⟨([] : List UInt8).toArray⟩ (grownCap w (⟨([] : List UInt8).toArray⟩ : ByteArray).size 0 5)).size, (bytesRow ⟨([] : List UInt8).toArray⟩ (grownCap w (⟨([] : List UInt8).toArray⟩ : ByteArray).size 0 5)).size + 1))).heap.size := by simp
          rw [hBs] at hcv hby hx2 hgs2
          generalize grownCap w ([] : List UInt8).length 0 5 = cap at *
          generalize w.drew.alloc (.cells (bytesRow ⟨([] : List UInt8).toArray⟩ cap) 5 ((bytesRow ⟨([] : List UInt8).toArray⟩ cap).size, (bytesRow ⟨([] : List UInt8).toArray⟩ cap).size + 1)) = w2 at *
          have H2 := hide (And.intro hby (And.intro hx2 hgs2))
          clear hby hx2 hgs2
          have hBl : ([] : List UInt8).length ≤ 40 := by first | omega | simp
          have hnB : (nums ([] : List UInt8)).length = ([] : List UInt8).length := by simp [nums]
          have hdB := hide (nums_digs (l := ([] : List UInt8)) (fun c hc => by cases hc))
          go_wp2
          go_loopw [13, 89] (fun r i wr => ∃ (j : Nat) (raw : Int) (f : List Int), r = .int .i64 raw ∧ i = .int .i64 j ∧ j ≤ 17 ∧ Byts wr w.heap.size f ∧ Dbl v (nums ([] : List UInt8)) j f raw ∧ Ext w wr ∧ w.heap.size < wr.heap.size) (fun _ i _ => 17 - (intOf i).toNat)
          case atStart => exact ⟨0, v, nums ([] : List UInt8), rfl, rfl, by omega, (unhide H2).1, ⟨unhide hdB, rfl, by simp⟩, (unhide H2).2.1, (unhide H2).2.2⟩
          case round =>
            obtain ⟨j, raw, f, rfl, rfl, hj, hby, hdb, hx, hgs⟩ := hrel
            have hrb := hdb.bound (unhide hdB) ⟨hv0, hv1⟩ hj
            have hfl : f.length = ([] : List UInt8).length := hdb.2.1.trans hnB
            by_cases h17 : j < 17
            · have t17 : decide ((j : Int) < 17) = true := by simp; omega
              have HD := hide hdb
              have H3 := hide (And.intro hby (And.intro hx hgs))
              clear hby hdb hx hgs H2
              go_wp2
              go_loopw [14, 15] (fun c i wq => ∃ k : Nat, k ≤ f.length ∧ i = .int .i64 ((k : Int) - 1) ∧ c = .int .u8 (dbl (f.drop k)).2 ∧ Byts wq w.heap.size (f.take k ++ (dbl (f.drop k)).1) ∧ Ext w wq ∧ w.heap.size < wq.heap.size) (fun _ i _ => (intOf i + 1).toNat)
              case atStart =>
                obtain ⟨hby, hx, hgs⟩ := unhide H3
                refine ⟨f.length, by omega, by simp [hfl], by simp [dbl], ?_, hx, hgs⟩
                rw [List.drop_length, List.take_length]
                simpa [dbl] using hby
              case round =>
                obtain ⟨k, hk, rfl, rfl, hby, hx, hgs⟩ := hrel
                by_cases hk0 : k = 0
                · subst hk0
                  have tge : decide ((0 : Int) ≤ ((0 : Nat) : Int) - 1) = false := by decide
                  rw [List.drop_zero, List.take_zero, List.nil_append] at hby
                  rw [List.drop_zero]
                  have hcr := (dbl_facts f (unhide HD).1).2.2
                  have hc0 := hcr.1
                  have hc1 := hcr.2.1
                  clear hcr
                  have H4 := hide (And.intro hby (And.intro hx hgs))
                  clear hby hx hgs H3
                  go_wp2
                  go_roundw
                  case rel =>
                    obtain ⟨hby, hx, hgs⟩ := unhide H4
                    exact ⟨j + 1, 2 * raw + (dbl f).2, (dbl f).1, rfl, by simp, by omega, hby, (unhide HD).step, hx, hgs⟩
                  case measure => simp [intOf]; omega
                · exfalso
                  have e0 : f.length = 0 := hfl
                  omega
            · have hj17 : j = 17 := by omega
              subst hj17
              have hraw := hide (hdb.done (fun c hc => by cases hc))
              have H4 := hide hx
              clear hby hdb hx hgs H2
              have hh : 0 ≤ (raw + 1) / 2 ∧ (raw + 1) / 2 ≤ 137439084544 := by omega
              go_wp2_with fail
              refine (refRaw_any _ _ (by unfold I64; omega)).mono ?_
              rintro e w5 ⟨rfl, rfl⟩
              go_wp2
              refine bodyPost_ret (v := .tuple #[.int .i32 (rawI (-((raw + 1) / 2))), .int .i64 0]) (by simp [results, Tryd.results58, go_sem]) rfl ⟨?_, unhide H4⟩
              rw [unhide hraw, unhide HNN]
              rfl
end Go.Proofs.YtdcamcpffiilbaaDoor

/-
  The walk of the document's Parse at a number's text: without a minus, with a point.
-/
namespace Go.Proofs.YtdcamcpffiilbaaDoor
open Go.RowKit
set_option linter.unusedSimpArgs false
set_option linter.unusedVariables false

set_option maxHeartbeats 4000000 in
theorem refParse_np (A B : List UInt8) (w : World) (hA : ∀ c ∈ A, isDig c) (hB : ∀ c ∈ B, isDig c) (hk : A.length + B.length ≠ 0) (hlen : (A ++ 46 :: B).length ≤ 40) :
    Calls Tryd.prog 58 #[.string ⟨((A ++ 46 :: B) : List UInt8).toArray⟩] w fun e w' => e = .returned (.tuple #[.int .i32 (rawI (rawHalf A B)), .int .i64 0]) ∧ Ext w w' := by
  have hlook : Hid (look (A ++ 46 :: B) 0 (-1) 0 = some ((A.length : Int), A.length + B.length)) := by
    show _ = _
    rw [look_digs _ _ _ _ _ hA, look, if_neg (by decide), if_pos ⟨rfl, by omega⟩, ← List.append_nil B, look_digs _ _ _ _ _ hB]
    simp [look]
  have hbl : (A ++ 46 :: B).length ≤ 40 := by simp at hlen ⊢; omega
  have hbs : (⟨(A ++ 46 :: B).toArray⟩ : ByteArray).size = (A ++ 46 :: B).length := Lib.size_mk _
  have hls : (⟨((A ++ 46 :: B) : List UInt8).toArray⟩ : ByteArray).size = ((A ++ 46 :: B) : List UInt8).length := Lib.size_mk _
  generalize hbe : (A ++ 46 :: B) = b at *
  have HBE := hide hbe
  clear hbe
  go_enter Tryd.func58, Tryd.ntmps58
  have h40 : (b.length : Int) ≤ 40 := by omega
  clear hlen
  obtain ⟨c0, hc0, hn45⟩ : ∃ c0, b[0]? = some c0 ∧ c0 ≠ 45 := by rw [← unhide HBE]; exact head_np A B hA
  have hat0 : ∀ h, (⟨b.toArray⟩ : ByteArray)[0]'h = c0 := by
    intro h
    have := Lib.getElem_mk b 0 h
    rw [hc0] at this
    exact (Option.some.inj this).symm
  have hpos : 0 < b.length := by
    rcases Nat.lt_or_ge 0 b.length with h | h
    · exact h
    · rw [List.getElem?_eq_none h] at hc0
      cases hc0
  have hbne : b ≠ [] := by
    intro e
    rw [e] at hpos
    simp at hpos
  have t45 : ((c0.toNat : Int) == 45) = false := by
    simp
    intro e
    exact hn45 (UInt8.toNat_inj.1 (by simpa using (by omega : c0.toNat = 45)))
  clear hc0 hn45
  go_wp2
  go_loop [5, 6, 32] (fun p k i => ∃ (j : Nat) (pt : Int) (cn : Nat), p = .int .i64 pt ∧ k = .int .i64 cn ∧ i = .int .i64 j ∧ j ≤ b.length ∧ -1 ≤ pt ∧ pt < j ∧ cn ≤ j ∧ look (b.drop j) j pt cn = look b 0 (-1) 0) (fun _ _ i => b.length - (intOf i).toNat)
  case atStart => exact ⟨0, -1, 0, rfl, rfl, rfl, by omega, by omega, by omega, by omega, rfl⟩
  case round =>
    obtain ⟨j, pt, cn, rfl, rfl, rfl, hj, hp1, hp2, hcn, hl⟩ := hrel
    have HL := hide hl
    clear hl
    by_cases hlt : j < b.length
    · obtain ⟨c, hc, hdrop⟩ : ∃ c, b[j]? = some c ∧ b.drop j = c :: b.drop (j + 1) := ⟨b[j], by simp [hlt], List.drop_eq_getElem_cons hlt⟩
      have hat : ∀ h, (⟨b.toArray⟩ : ByteArray)[j]'h = c := by
        intro h
        have := Lib.getElem_mk b j h
        rw [hc] at this
        exact (Option.some.inj this).symm
      have hdr := hide hdrop
      clear hc hdrop
      by_cases hdig : 48 ≤ c.toNat ∧ c.toNat ≤ 57
      · have t1 : decide ((48 : Int) ≤ (c.toNat : Int)) = true := by simp; omega
        have t2 : decide ((c.toNat : Int) ≤ 57) = true := by simp; omega
        have K := hide hdig
        clear hdig
        go_wp2
        go_round
        case rel =>
          refine ⟨j + 1, pt, cn + 1, rfl, by simp, by simp, by omega, by omega, by omega, by omega, ?_⟩
          rw [← unhide HL, unhide hdr, look, if_pos (unhide K)]
        case measure => simp [intOf]; omega
      · by_cases hpt : c = 46 ∧ pt < 0
        · have t1 : decide ((48 : Int) ≤ (c.toNat : Int)) = false := by rw [hpt.1]; rfl
          have t3 : ((c.toNat : Int) == 46) = true := by rw [hpt.1]; rfl
          have t4 : decide (pt < 0) = true := by simp; omega
          have K := hide (And.intro hdig hpt)
          clear hdig hpt
          go_wp2
          go_round
          case rel =>
            refine ⟨j + 1, j, cn, rfl, rfl, by simp, by omega, by omega, by omega, by omega, ?_⟩
            rw [← unhide HL, unhide hdr, look, if_neg (unhide K).1, if_pos (unhide K).2]
          case measure => simp [intOf]; omega
        · exfalso
          have h := unhide HL
          rw [unhide hdr, look, if_neg hdig, if_neg hpt, unhide hlook] at h
          cases h
    · have hjl : j = b.length := by omega
      subst hjl
      have h := unhide HL
      rw [List.drop_length, look, unhide hlook] at h
      obtain ⟨hpt, hcn2⟩ := Prod.mk.inj (Option.some.inj h)
      subst hpt
      subst hcn2
      clear h HL hlook
      have hblen : b.length = A.length + 1 + B.length := by rw [← unhide HBE]; simp; omega
      have hexA : (⟨b.toArray⟩ : ByteArray).extract 0 A.length = ⟨A.toArray⟩ := by rw [Lib.extract_mk, ← unhide HBE]; simp
      have hexB : (⟨b.toArray⟩ : ByteArray).extract (A.length + 1) b.length = ⟨B.toArray⟩ := by
        rw [Lib.extract_mk, hblen, List.take_of_length_le (by rw [List.length_drop, hblen]; omega), ← unhide HBE]
        have e : (A ++ 46 :: B) = (A ++ [46]) ++ B := by simp
        rw [e, List.drop_left' (by simp)]
      rw [hblen] at hexB
      have tk : (((A.length : Int) + (B.length : Int)) == 0) = false := by simp; omega
      have tp : decide ((0 : Int) ≤ (A.length : Int)) = true := by simp
      go_wp2
      go_quiet (fail)
      have hAs : (⟨A.toArray⟩ : ByteArray).size = A.length := Lib.size_mk _
      have hAl : A.length ≤ 40 := by omega
      go_wp2
      go_loop [10, 73] (fun n i => ∃ (j : Nat) (v : Int), n = .int .i64 v ∧ i = .int .i64 j ∧ j ≤ A.length ∧ 0 ≤ v ∧ v ≤ 1048576 ∧ nfold (A.drop j) v = nfold A 0) (fun _ i => A.length - (intOf i).toNat)
      case atStart => exact ⟨0, 0, rfl, rfl, by omega, by omega, by omega, rfl⟩
      case round =>
        obtain ⟨j, v, rfl, rfl, hj, hv0, hv1, hn⟩ := hrel
        have HN := hide hn
        clear hn
        by_cases hlt : j < A.length
        · obtain ⟨c, hc, hdrop⟩ : ∃ c, A[j]? = some c ∧ A.drop j = c :: A.drop (j + 1) := ⟨A[j], by simp [hlt], List.drop_eq_getElem_cons hlt⟩
          have hat : ∀ h, (⟨A.toArray⟩ : ByteArray)[j]'h = c := by
            intro h
            have := Lib.getElem_mk A j h
            rw [hc] at this
            exact (Option.some.inj this).symm
          have hd := hA c (List.mem_of_getElem? hc)
          unfold isDig at hd
          have hdr := hide hdrop
          clear hc hdrop
          go_wp2
          go_round
          case rel =>
            refine ⟨j + 1, min (10 * v + ((c.toNat : Int) - 48)) 1048576, (by first | rfl | (congr 1; omega)), by simp, by omega, by omega, by omega, ?_⟩
            rw [← unhide HN, unhide hdr, nfold]
          case measure => simp [intOf]; omega
        · have hjl : j = A.length := by omega
          subst hjl
          have hn := unhide HN
          rw [List.drop_length, nfold] at hn
          have HNN := hide hn
          clear hn HN
          have hBs : (⟨B.toArray⟩ : ByteArray).size = B.length := Lib.size_mk _
          have hcv := run_bytes_of_string (P := Tryd.prog) (w.drewN nq) 9 87 5 ⟨B.toArray⟩ Tryd.underlying9 Tryd.underlying87 Tryd.underlying5
          have hby := Byts.new (w.drewN nq) B (grownCap (w.drewN nq) (⟨B.toArray⟩ : ByteArray).size 0 5) 5
          have hx2 : Ext w ((w.drewN nq).drew.alloc (.cells (bytesRow ⟨B.toArray⟩ (grownCap (w.drewN nq) (⟨B.toArray⟩ : ByteArray).size 0 5)) 5 ((bytesRow ⟨B.toArray⟩ (grownCap (w.drewN nq) (⟨B.toArray⟩ : ByteArray).size 0 5)).size, (bytesRow ⟨B.toArray⟩ (grownCap (w.drewN nq) (⟨B.toArray⟩ : ByteArray).size 0 5)).size + 1))) := (((Ext.refl w).drewN nq).drew).alloc _
          have hgs2 : w.heap.size < ((w.drewN nq).drew.alloc (.cells (bytesRow ⟨B.toArray⟩ (grownCap (w.drewN nq) (⟨B.toArray⟩ : ByteArray).size 0 5)) 5 ((bytesRow ⟨B.toArray⟩ (grownCap (w.drewN nq) (⟨B.toArray⟩ : ByteArray).size 0 5)).size, (bytesRow ⟨B.toArray⟩ (grownCap (w.drewN nq) (⟨B.toArray⟩ : ByteArray).size 0 5)).size + 1))).heap.size := by simp
          rw [hBs] at hcv hby hx2 hgs2
          generalize grownCap (w.drewN nq) B.length 0 5 = cap at *
          generalize (w.drewN nq).drew.alloc (.cells (bytesRow ⟨B.toArray⟩ cap) 5 ((bytesRow ⟨B.toArray⟩ cap).size, (bytesRow ⟨B.toArray⟩ cap).size + 1)) = w2 at *
          have H2 := hide (And.intro hby (And.intro hx2 hgs2))
          clear hby hx2 hgs2
          have hBl : B.length ≤ 40 := by first | omega | simp
          have hnB : (nums B).length = B.length := by simp [nums]
          have hdB := hide (nums_digs (l := B) hB)
          go_wp2
          go_loopw [13, 89] (fun r i wr => ∃ (j : Nat) (raw : Int) (f : List Int), r = .int .i64 raw ∧ i = .int .i64 j ∧ j ≤ 17 ∧ Byts wr w.heap.size f ∧ Dbl v (nums B) j f raw ∧ Ext w wr ∧ w.heap.size < wr.heap.size) (fun _ i _ => 17 - (intOf i).toNat)
          case atStart => exact ⟨0, v, nums B, rfl, rfl, by omega, (unhide H2).1, ⟨unhide hdB, rfl, by simp⟩, (unhide H2).2.1, (unhide H2).2.2⟩
          case round =>
            obtain ⟨j, raw, f, rfl, rfl, hj, hby, hdb, hx, hgs⟩ := hrel
            have hrb := hdb.bound (unhide hdB) ⟨hv0, hv1⟩ hj
            have hfl : f.length = B.length := hdb.2.1.trans hnB
            by_cases h17 : j < 17
            · have t17 : decide ((j : Int) < 17) = true := by simp; omega
              have HD := hide hdb
              have H3 := hide (And.intro hby (And.intro hx hgs))
              clear hby hdb hx hgs H2
              go_wp2
              go_loopw [14, 15] (fun c i wq => ∃ k : Nat, k ≤ f.length ∧ i = .int .i64 ((k : Int) - 1) ∧ c = .int .u8 (dbl (f.drop k)).2 ∧ Byts wq w.heap.size (f.take k ++ (dbl (f.drop k)).1) ∧ Ext w wq ∧ w.heap.size < wq.heap.size) (fun _ i _ => (intOf i + 1).toNat)
              case atStart =>
                obtain ⟨hby, hx, hgs⟩ := unhide H3
                refine ⟨f.length, by omega, by simp [hfl], by simp [dbl], ?_, hx, hgs⟩
                rw [List.drop_length, List.take_length]
                simpa [dbl] using hby
              case round =>
                obtain ⟨k, hk, rfl, rfl, hby, hx, hgs⟩ := hrel
                by_cases hk0 : k = 0
                · subst hk0
                  have tge : decide ((0 : Int) ≤ ((0 : Nat) : Int) - 1) = false := by decide
                  rw [List.drop_zero, List.take_zero, List.nil_append] at hby
                  rw [List.drop_zero]
                  have hcr := (dbl_facts f (unhide HD).1).2.2
                  have hc0 := hcr.1
                  have hc1 := hcr.2.1
                  clear hcr
                  have H4 := hide (And.intro hby (And.intro hx hgs))
                  clear hby hx hgs H3
                  go_wp2
                  go_roundw
                  case rel =>
                    obtain ⟨hby, hx, hgs⟩ := unhide H4
                    exact ⟨j + 1, 2 * raw + (dbl f).2, (dbl f).1, rfl, by simp, by omega, hby, (unhide HD).step, hx, hgs⟩
                  case measure => simp [intOf]; omega
                · obtain ⟨q, rfl⟩ : ∃ q, k = q + 1 := ⟨k - 1, by omega⟩
                  have hqi : (((q + 1 : Nat) : Int) - 1) = (q : Int) := by omega
                  rw [hqi]
                  have tge : decide ((0 : Int) ≤ (q : Int)) = true := by simp
                  have hqf : q < f.length := by omega
                  have hql : q < (f.take (q + 1) ++ (dbl (f.drop (q + 1))).1).length := by simp; omega
                  have hcell := hby.1 q hql
                  have hfz := hby.2 q hql
                  have hget : (f.take (q + 1) ++ (dbl (f.drop (q + 1))).1)[q] = f[q] := by
                    rw [List.getElem_append_left (by simp; omega)]
                    simp
                  rw [hget] at hcell
                  have hdq := (unhide HD).1 f[q] (List.getElem_mem hqf)
                  have hcr := (dbl_facts (f.drop (q + 1)) (fun y hy => (unhide HD).1 y (List.mem_of_mem_drop hy))).2.2
                  have hc0 := hcr.1
                  have hc1 := hcr.2.1
                  have hst := hide (hby.set q (48 + (2 * (f[q] - 48) + (dbl (f.drop (q + 1))).2) % 10) hql)
                  have hds := hide (dbl_set f q hqf)
                  have hdc := hide (dbl_carry f q hqf)
                  have H4 := hide (And.intro hx hgs)
                  clear hby hx hgs H3 hcr hget
                  generalize f[q] = x at *
                  generalize (dbl (f.drop (q + 1))).2 = cy at *
                  go_wp2
                  go_roundw
                  case rel =>
                    obtain ⟨hx, hgs⟩ := unhide H4
                    refine ⟨q, by omega, by simp, by rw [unhide hdc], ?_, below_set hx (Nat.le_of_lt hgs) _ _ _ (Nat.le_refl _), by simpa using hgs⟩
                    rw [← unhide hds]
                    exact unhide hst
                  case measure => simp [intOf]
            · have hj17 : j = 17 := by omega
              subst hj17
              have hraw := hide (hdb.done hB)
              have H4 := hide hx
              clear hby hdb hx hgs H2
              have hh : 0 ≤ (raw + 1) / 2 ∧ (raw + 1) / 2 ≤ 137439084544 := by omega
              go_wp2_with fail
              refine (refRaw_any _ _ (by unfold I64; omega)).mono ?_
              rintro e w5 ⟨rfl, rfl⟩
              go_wp2
              refine bodyPost_ret (v := .tuple #[.int .i32 (rawI (((raw + 1) / 2))), .int .i64 0]) (by simp [results, Tryd.results58, go_sem]) rfl ⟨?_, unhide H4⟩
              rw [unhide hraw, unhide HNN]
              rfl
end Go.Proofs.YtdcamcpffiilbaaDoor

/-
  The walk of the document's Parse at a number's text: without a minus, without a point.
-/
namespace Go.Proofs.YtdcamcpffiilbaaDoor
open Go.RowKit
set_option linter.unusedSimpArgs false
set_option linter.unusedVariables false

set_option maxHeartbeats 4000000 in
theorem refParse_nw (b : List UInt8) (w : World) (hA : ∀ c ∈ b, isDig c) (hk : b ≠ []) (hlen : (b).length ≤ 40) :
    Calls Tryd.prog 58 #[.string ⟨((b) : List UInt8).toArray⟩] w fun e w' => e = .returned (.tuple #[.int .i32 (rawI (rawHalf b ([] : List UInt8))), .int .i64 0]) ∧ Ext w w' := by
  have hlook : Hid (look (b) 0 (-1) 0 = some (-1, b.length)) := by
    show _ = _
    have h := look_digs b [] 0 (-1) 0 hA
    rw [List.append_nil] at h
    rw [h]
    simp [look]
  have hbl : (b).length ≤ 40 := by exact hlen
  have hbs : (⟨(b).toArray⟩ : ByteArray).size = (b).length := Lib.size_mk _
  have hls : (⟨((b) : List UInt8).toArray⟩ : ByteArray).size = ((b) : List UInt8).length := Lib.size_mk _
  go_enter Tryd.func58, Tryd.ntmps58
  have h40 : (b.length : Int) ≤ 40 := by omega
  clear hlen
  obtain ⟨c0, hc0, hn45⟩ : ∃ c0, b[0]? = some c0 ∧ c0 ≠ 45 := by  exact head_nw b hA hk
  have hat0 : ∀ h, (⟨b.toArray⟩ : ByteArray)[0]'h = c0 := by
    intro h
    have := Lib.getElem_mk b 0 h
    rw [hc0] at this
    exact (Option.some.inj this).symm
  have hpos : 0 < b.length := by
    rcases Nat.lt_or_ge 0 b.length with h | h
    · exact h
    · rw [List.getElem?_eq_none h] at hc0
      cases hc0
  have hbne : b ≠ [] := by
    intro e
    rw [e] at hpos
    simp at hpos
  have t45 : ((c0.toNat : Int) == 45) = false := by
    simp
    intro e
    exact hn45 (UInt8.toNat_inj.1 (by simpa using (by omega : c0.toNat = 45)))
  clear hc0 hn45
  go_wp2
  go_loop [5, 6, 32] (fun p k i => ∃ (j : Nat) (pt : Int) (cn : Nat), p = .int .i64 pt ∧ k = .int .i64 cn ∧ i = .int .i64 j ∧ j ≤ b.length ∧ -1 ≤ pt ∧ pt < j ∧ cn ≤ j ∧ look (b.drop j) j pt cn = look b 0 (-1) 0) (fun _ _ i => b.length - (intOf i).toNat)
  case atStart => exact ⟨0, -1, 0, rfl, rfl, rfl, by omega, by omega, by omega, by omega, rfl⟩
  case round =>
    obtain ⟨j, pt, cn, rfl, rfl, rfl, hj, hp1, hp2, hcn, hl⟩ := hrel
    have HL := hide hl
    clear hl
    by_cases hlt : j < b.length
    · obtain ⟨c, hc, hdrop⟩ : ∃ c, b[j]? = some c ∧ b.drop j = c :: b.drop (j + 1) := ⟨b[j], by simp [hlt], List.drop_eq_getElem_cons hlt⟩
      have hat : ∀ h, (⟨b.toArray⟩ : ByteArray)[j]'h = c := by
        intro h
        have := Lib.getElem_mk b j h
        rw [hc] at this
        exact (Option.some.inj this).symm
      have hdr := hide hdrop
      clear hc hdrop
      by_cases hdig : 48 ≤ c.toNat ∧ c.toNat ≤ 57
      · have t1 : decide ((48 : Int) ≤ (c.toNat : Int)) = true := by simp; omega
        have t2 : decide ((c.toNat : Int) ≤ 57) = true := by simp; omega
        have K := hide hdig
        clear hdig
        go_wp2
        go_round
        case rel =>
          refine ⟨j + 1, pt, cn + 1, rfl, by simp, by simp, by omega, by omega, by omega, by omega, ?_⟩
          rw [← unhide HL, unhide hdr, look, if_pos (unhide K)]
        case measure => simp [intOf]; omega
      · by_cases hpt : c = 46 ∧ pt < 0
        · have t1 : decide ((48 : Int) ≤ (c.toNat : Int)) = false := by rw [hpt.1]; rfl
          have t3 : ((c.toNat : Int) == 46) = true := by rw [hpt.1]; rfl
          have t4 : decide (pt < 0) = true := by simp; omega
          have K := hide (And.intro hdig hpt)
          clear hdig hpt
          go_wp2
          go_round
          case rel =>
            refine ⟨j + 1, j, cn, rfl, rfl, by simp, by omega, by omega, by omega, by omega, ?_⟩
            rw [← unhide HL, unhide hdr, look, if_neg (unhide K).1, if_pos (unhide K).2]
          case measure => simp [intOf]; omega
        · exfalso
          have h := unhide HL
          rw [unhide hdr, look, if_neg hdig, if_neg hpt, unhide hlook] at h
          cases h
    · have hjl : j = b.length := by omega
      subst hjl
      have h := unhide HL
      rw [List.drop_length, look, unhide hlook] at h
      obtain ⟨hpt, hcn2⟩ := Prod.mk.inj (Option.some.inj h)
      subst hpt
      subst hcn2
      clear h HL hlook
      have tk : ((b.length : Int) == 0) = false := by simpa using hk
      have hAs : (⟨b.toArray⟩ : ByteArray).size = b.length := Lib.size_mk _
      have hAl : b.length ≤ 40 := by omega
      go_wp2
      go_loop [10, 73] (fun n i => ∃ (j : Nat) (v : Int), n = .int .i64 v ∧ i = .int .i64 j ∧ j ≤ b.length ∧ 0 ≤ v ∧ v ≤ 1048576 ∧ nfold (b.drop j) v = nfold b 0) (fun _ i => b.length - (intOf i).toNat)
      case atStart => exact ⟨0, 0, rfl, rfl, by omega, by omega, by omega, rfl⟩
      case round =>
        obtain ⟨j, v, rfl, rfl, hj, hv0, hv1, hn⟩ := hrel
        have HN := hide hn
        clear hn
        by_cases hlt : j < b.length
        · obtain ⟨c, hc, hdrop⟩ : ∃ c, b[j]? = some c ∧ b.drop j = c :: b.drop (j + 1) := ⟨b[j], by simp [hlt], List.drop_eq_getElem_cons hlt⟩
          have hat : ∀ h, (⟨b.toArray⟩ : ByteArray)[j]'h = c := by
            intro h
            have := Lib.getElem_mk b j h
            rw [hc] at this
            exact (Option.some.inj this).symm
          have hd := hA c (List.mem_of_getElem? hc)
          unfold isDig at hd
          have hdr := hide hdrop
          clear hc hdrop
          go_wp2
          go_round
          case rel =>
            refine ⟨j + 1, min (10 * v + ((c.toNat : Int) - 48)) 1048576, (by first | rfl | (congr 1; omega)), by simp, by omega, by omega, by omega, ?_⟩
            rw [← unhide HN, unhide hdr, nfold]
          case measure => simp [intOf]; omega
        · have hjl : j = b.length := by omega
          subst hjl
          have hn := unhide HN
          rw [List.drop_length, nfold] at hn
          have HNN := hide hn
          clear hn HN
          have hBs : (⟨([] : List UInt8).toArray⟩ : ByteArray).size = ([] : List UInt8).length := Lib.size_mk _
          have hcv := run_bytes_of_string (P := Tryd.prog) w 9 87 5 ⟨([] : List UInt8).toArray⟩ Tryd.underlying9 Tryd.underlying87 Tryd.underlying5
          have hby := Byts.new w ([] : List UInt8) (grownCap w (⟨([] : List UInt8).toArray⟩ : ByteArray).size 0 5) 5
          have hx2 : Ext w (w.drew.alloc (.cells (bytesRow ⟨([] : List UInt8).toArray⟩ (grownCap w (⟨([] : List UInt8).toArray⟩ : ByteArray).size 0 5)) 5 ((bytesRow ⟨([] : List UInt8).toArray⟩ (grownCap w (⟨([] : List UInt8).toArray⟩ : ByteArray).size 0 5)).size, (bytesRow ⟨([] : List UInt8).toArray⟩ (grownCap w (⟨([] : List UInt8).toArray⟩ : ByteArray).size 0 5)).size + 1))) := ((Ext.refl w).drew).alloc _
          have hgs2 : w.heap.size < (w.drew.alloc (.cells (bytesRow ⟨([] : List UInt8).toArray⟩ (grownCap w (⟨([] : List UInt8).toArray⟩ : ByteArray).size 0 5)) 5 ((bytesRow ⟨([] : List UInt8).toArray⟩ (grownCap w (⟨([] : List UInt8).toArray⟩ : ByteArray).size 0 5)).size, (bytesRow ⟨([] : List UInt8).toArray⟩ (grownCap w (⟨([] : List UInt8).toArray⟩ : ByteArray).size 0 5)).size + 1))).heap.size := by simp
          rw [hBs] at hcv hby hx2 hgs2
          generalize grownCap w ([] : List UInt8).length 0 5 = cap at *
          generalize w.drew.alloc (.cells (bytesRow ⟨([] : List UInt8).toArray⟩ cap) 5 ((bytesRow ⟨([] : List UInt8).toArray⟩ cap).size, (bytesRow ⟨([] : List UInt8).toArray⟩ cap).size + 1)) = w2 at *
          have H2 := hide (And.intro hby (And.intro hx2 hgs2))
          clear hby hx2 hgs2
          have hBl : ([] : List UInt8).length ≤ 40 := by first | omega | simp
          have hnB : (nums ([] : List UInt8)).length = ([] : List UInt8).length := by simp [nums]
          have hdB := hide (nums_digs (l := ([] : List UInt8)) (fun c hc => by cases hc))
          go_wp2
          go_loopw [13, 89] (fun r i wr => ∃ (j : Nat) (raw : Int) (f : List Int), r = .int .i64 raw ∧ i = .int .i64 j ∧ j ≤ 17 ∧ Byts wr w.heap.size f ∧ Dbl v (nums ([] : List UInt8)) j f raw ∧ Ext w wr ∧ w.heap.size < wr.heap.size) (fun _ i _ => 17 - (intOf i).toNat)
          case atStart => exact ⟨0, v, nums ([] : List UInt8), rfl, rfl, by omega, (unhide H2).1, ⟨unhide hdB, rfl, by simp⟩, (unhide H2).2.1, (unhide H2).2.2⟩
          case round =>
            obtain ⟨j, raw, f, rfl, rfl, hj, hby, hdb, hx, hgs⟩ := hrel
            have hrb := hdb.bound (unhide hdB) ⟨hv0, hv1⟩ hj
            have hfl : f.length = ([] : List UInt8).length := hdb.2.1.trans hnB
            by_cases h17 : j < 17
            · have t17 : decide ((j : Int) < 17) = true := by simp; omega
              have HD := hide hdb
              have H3 := hide (And.intro hby (And.intro hx hgs))
              clear hby hdb hx hgs H2
              go_wp2
              go_loopw [14, 15] (fun c i wq => ∃ k : Nat, k ≤ f.length ∧ i = .int .i64 ((k : Int) - 1) ∧ c = .int .u8 (dbl (f.drop k)).2 ∧ Byts wq w.heap.size (f.take k ++ (dbl (f.drop k)).1) ∧ Ext w wq ∧ w.heap.size < wq.heap.size) (fun _ i _ => (intOf i + 1).toNat)
              case atStart =>
                obtain ⟨hby, hx, hgs⟩ := unhide H3
                refine ⟨f.length, by omega, by simp [hfl], by simp [dbl], ?_, hx, hgs⟩
                rw [List.drop_length, List.take_length]
                simpa [dbl] using hby
              case round =>
                obtain ⟨k, hk, rfl, rfl, hby, hx, hgs⟩ := hrel
                by_cases hk0 : k = 0
                · subst hk0
                  have tge : decide ((0 : Int) ≤ ((0 : Nat) : Int) - 1) = false := by decide
                  rw [List.drop_zero, List.take_zero, List.nil_append] at hby
                  rw [List.drop_zero]
                  have hcr := (dbl_facts f (unhide HD).1).2.2
                  have hc0 := hcr.1
                  have hc1 := hcr.2.1
                  clear hcr
                  have H4 := hide (And.intro hby (And.intro hx hgs))
                  clear hby hx hgs H3
                  go_wp2
                  go_roundw
                  case rel =>
                    obtain ⟨hby, hx, hgs⟩ := unhide H4
                    exact ⟨j + 1, 2 * raw + (dbl f).2, (dbl f).1, rfl, by simp, by omega, hby, (unhide HD).step, hx, hgs⟩
                  case measure => simp [intOf]; omega
                · exfalso
                  have e0 : f.length = 0 := hfl
                  omega
            · have hj17 : j = 17 := by omega
              subst hj17
              have hraw := hide (hdb.done (fun c hc => by cases hc))
              have H4 := hide hx
              clear hby hdb hx hgs H2
              have hh : 0 ≤ (raw + 1) / 2 ∧ (raw + 1) / 2 ≤ 137439084544 := by omega
              go_wp2_with fail
              refine (refRaw_any _ _ (by unfold I64; omega)).mono ?_
              rintro e w5 ⟨rfl, rfl⟩
              go_wp2
              refine bodyPost_ret (v := .tuple #[.int .i32 (rawI (((raw + 1) / 2))), .int .i64 0]) (by simp [results, Tryd.results58, go_sem]) rfl ⟨?_, unhide H4⟩
              rw [unhide hraw, unhide HNN]
              rfl
end Go.Proofs.YtdcamcpffiilbaaDoor

/-
  The walk of the document's Parse at a number's text: one that is no number's.
-/
namespace Go.Proofs.YtdcamcpffiilbaaDoor
open Go.RowKit
set_option linter.unusedSimpArgs false
set_option linter.unusedVariables false

set_option maxHeartbeats 4000000 in
theorem refParse_bad_m (b : List UInt8) (w : World) (hlen : (45 :: b).length ≤ 40) (hbad : ∀ pt cn, look b 0 (-1) 0 = some (pt, cn) → cn = 0) :
    Calls Tryd.prog 58 #[.string ⟨(45 :: b).toArray⟩] w fun e w' => e = .returned (.tuple #[.int .i32 0, .int .i64 120]) ∧ Ext w w' := by
  have hbl : b.length ≤ 40 := by simp at hlen; omega
  have hbs : (⟨b.toArray⟩ : ByteArray).size = b.length := Lib.size_mk _
  have hls : (⟨(45 :: b).toArray⟩ : ByteArray).size = (45 :: b).length := Lib.size_mk _
  have h40 : ((b.length : Int) + 1) ≤ 40 := by simp at hlen; omega
  have hcut : (⟨(45 :: b).toArray⟩ : ByteArray).extract 1 (b.length + 1) = ⟨b.toArray⟩ := by rw [Lib.extract_mk, List.take_of_length_le (by simp)]; rfl
  have hat0 : ∀ h, (⟨(45 :: b).toArray⟩ : ByteArray)[0]'h = 45 := fun h => rfl
  clear hlen
  have HBAD := hide hbad
  clear hbad
  go_enter Tryd.func58, Tryd.ntmps58
  go_wp2
  go_loop [5, 6, 32] (fun p k i => ∃ (j : Nat) (pt : Int) (cn : Nat), p = .int .i64 pt ∧ k = .int .i64 cn ∧ i = .int .i64 j ∧ j ≤ b.length ∧ -1 ≤ pt ∧ pt < j ∧ cn ≤ j ∧ look (b.drop j) j pt cn = look b 0 (-1) 0) (fun _ _ i => b.length - (intOf i).toNat)
  case atStart => exact ⟨0, -1, 0, rfl, rfl, rfl, by omega, by omega, by omega, by omega, rfl⟩
  case round =>
    obtain ⟨j, pt, cn, rfl, rfl, rfl, hj, hp1, hp2, hcn, hl⟩ := hrel
    have HL := hide hl
    clear hl
    by_cases hlt : j < b.length
    · obtain ⟨c, hc, hdrop⟩ : ∃ c, b[j]? = some c ∧ b.drop j = c :: b.drop (j + 1) := ⟨b[j], by simp [hlt], List.drop_eq_getElem_cons hlt⟩
      have hat : ∀ h, (⟨b.toArray⟩ : ByteArray)[j]'h = c := by
        intro h
        have := Lib.getElem_mk b j h
        rw [hc] at this
        exact (Option.some.inj this).symm
      have hdr := hide hdrop
      clear hc hdrop hat0
      by_cases hdig : 48 ≤ c.toNat ∧ c.toNat ≤ 57
      · have t1 : decide ((48 : Int) ≤ (c.toNat : Int)) = true := by simp; omega
        have t2 : decide ((c.toNat : Int) ≤ 57) = true := by simp; omega
        have K := hide hdig
        clear hdig
        go_wp2
        go_round
        case rel =>
          refine ⟨j + 1, pt, cn + 1, rfl, by simp, by simp, by omega, by omega, by omega, by omega, ?_⟩
          rw [← unhide HL, unhide hdr, look, if_pos (unhide K)]
        case measure => simp [intOf]; omega
      · by_cases hpt : c = 46 ∧ pt < 0
        · have t1 : decide ((48 : Int) ≤ (c.toNat : Int)) = false := by rw [hpt.1]; rfl
          have t3 : ((c.toNat : Int) == 46) = true := by rw [hpt.1]; rfl
          have t4 : decide (pt < 0) = true := by simp; omega
          have K := hide (And.intro hdig hpt)
          clear hdig hpt
          go_wp2
          go_round
          case rel =>
            refine ⟨j + 1, j, cn, rfl, rfl, by simp, by omega, by omega, by omega, by omega, ?_⟩
            rw [← unhide HL, unhide hdr, look, if_neg (unhide K).1, if_pos (unhide K).2]
          case measure => simp [intOf]; omega
        · by_cases q1 : 48 ≤ c.toNat
          · have t1 : decide ((48 : Int) ≤ (c.toNat : Int)) = true := by simp; omega
            have t2 : decide ((c.toNat : Int) ≤ 57) = false := by simp; omega
            have t3 : ((c.toNat : Int) == 46) = false := by simp; omega
            clear hdig hpt q1
            go_wp2
            exact bodyPost_ret (v := .tuple #[.int .i32 0, .int .i64 120]) (by simp [results, Tryd.results58, go_sem]) rfl ⟨rfl, Ext.refl _⟩
          · have t1 : decide ((48 : Int) ≤ (c.toNat : Int)) = false := by simp; omega
            by_cases q2 : c = 46
            · have t3 : ((c.toNat : Int) == 46) = true := by rw [q2]; rfl
              have t4 : decide (pt < 0) = false := by
                simp
                exact Int.not_lt.1 fun h => hpt ⟨q2, h⟩
              clear hdig hpt q1 q2
              go_wp2
              exact bodyPost_ret (v := .tuple #[.int .i32 0, .int .i64 120]) (by simp [results, Tryd.results58, go_sem]) rfl ⟨rfl, Ext.refl _⟩
            · have t3 : ((c.toNat : Int) == 46) = false := by
                simp
                intro e
                exact q2 (UInt8.toNat_inj.1 (by simpa using (by omega : c.toNat = 46)))
              clear hdig hpt q1 q2
              go_wp2
              exact bodyPost_ret (v := .tuple #[.int .i32 0, .int .i64 120]) (by simp [results, Tryd.results58, go_sem]) rfl ⟨rfl, Ext.refl _⟩
    · have hjl : j = b.length := by omega
      subst hjl
      have h := unhide HL
      rw [List.drop_length, look] at h
      obtain rfl : cn = 0 := unhide HBAD pt cn h.symm
      clear h HL HBAD hat0
      go_wp2
      exact bodyPost_ret (v := .tuple #[.int .i32 0, .int .i64 120]) (by simp [results, Tryd.results58, go_sem]) rfl ⟨rfl, Ext.refl _⟩

set_option maxHeartbeats 4000000 in
theorem refParse_bad_n (b : List UInt8) (w : World) (hlen : b.length ≤ 40) (hc : ∃ c0, b[0]? = some c0 ∧ c0 ≠ 45) (hbad : ∀ pt cn, look b 0 (-1) 0 = some (pt, cn) → cn = 0) :
    Calls Tryd.prog 58 #[.string ⟨b.toArray⟩] w fun e w' => e = .returned (.tuple #[.int .i32 0, .int .i64 120]) ∧ Ext w w' := by
  have hbl : b.length ≤ 40 := hlen
  have hbs : (⟨b.toArray⟩ : ByteArray).size = b.length := Lib.size_mk _
  have h40 : (b.length : Int) ≤ 40 := by omega
  clear hlen
  obtain ⟨c0, hc0, hn45⟩ := hc
  have hat0 : ∀ h, (⟨b.toArray⟩ : ByteArray)[0]'h = c0 := by
    intro h
    have := Lib.getElem_mk b 0 h
    rw [hc0] at this
    exact (Option.some.inj this).symm
  have hpos : 0 < b.length := by
    rcases Nat.lt_or_ge 0 b.length with h | h
    · exact h
    · rw [List.getElem?_eq_none h] at hc0
      cases hc0
  have hbne : b ≠ [] := by
    intro e
    rw [e] at hpos
    simp at hpos
  have t45 : ((c0.toNat : Int) == 45) = false := by
    simp
    intro e
    exact hn45 (UInt8.toNat_inj.1 (by simpa using (by omega : c0.toNat = 45)))
  clear hc0 hn45
  have HBAD := hide hbad
  clear hbad
  go_enter Tryd.func58, Tryd.ntmps58
  go_wp2
  go_loop [5, 6, 32] (fun p k i => ∃ (j : Nat) (pt : Int) (cn : Nat), p = .int .i64 pt ∧ k = .int .i64 cn ∧ i = .int .i64 j ∧ j ≤ b.length ∧ -1 ≤ pt ∧ pt < j ∧ cn ≤ j ∧ look (b.drop j) j pt cn = look b 0 (-1) 0) (fun _ _ i => b.length - (intOf i).toNat)
  case atStart => exact ⟨0, -1, 0, rfl, rfl, rfl, by omega, by omega, by omega, by omega, rfl⟩
  case round =>
    obtain ⟨j, pt, cn, rfl, rfl, rfl, hj, hp1, hp2, hcn, hl⟩ := hrel
    have HL := hide hl
    clear hl
    by_cases hlt : j < b.length
    · obtain ⟨c, hc, hdrop⟩ : ∃ c, b[j]? = some c ∧ b.drop j = c :: b.drop (j + 1) := ⟨b[j], by simp [hlt], List.drop_eq_getElem_cons hlt⟩
      have hat : ∀ h, (⟨b.toArray⟩ : ByteArray)[j]'h = c := by
        intro h
        have := Lib.getElem_mk b j h
        rw [hc] at this
        exact (Option.some.inj this).symm
      have hdr := hide hdrop
      clear hc hdrop hat0
      by_cases hdig : 48 ≤ c.toNat ∧ c.toNat ≤ 57
      · have t1 : decide ((48 : Int) ≤ (c.toNat : Int)) = true := by simp; omega
        have t2 : decide ((c.toNat : Int) ≤ 57) = true := by simp; omega
        have K := hide hdig
        clear hdig
        go_wp2
        go_round
        case rel =>
          refine ⟨j + 1, pt, cn + 1, rfl, by simp, by simp, by omega, by omega, by omega, by omega, ?_⟩
          rw [← unhide HL, unhide hdr, look, if_pos (unhide K)]
        case measure => simp [intOf]; omega
      · by_cases hpt : c = 46 ∧ pt < 0
        · have t1 : decide ((48 : Int) ≤ (c.toNat : Int)) = false := by rw [hpt.1]; rfl
          have t3 : ((c.toNat : Int) == 46) = true := by rw [hpt.1]; rfl
          have t4 : decide (pt < 0) = true := by simp; omega
          have K := hide (And.intro hdig hpt)
          clear hdig hpt
          go_wp2
          go_round
          case rel =>
            refine ⟨j + 1, j, cn, rfl, rfl, by simp, by omega, by omega, by omega, by omega, ?_⟩
            rw [← unhide HL, unhide hdr, look, if_neg (unhide K).1, if_pos (unhide K).2]
          case measure => simp [intOf]; omega
        · by_cases q1 : 48 ≤ c.toNat
          · have t1 : decide ((48 : Int) ≤ (c.toNat : Int)) = true := by simp; omega
            have t2 : decide ((c.toNat : Int) ≤ 57) = false := by simp; omega
            have t3 : ((c.toNat : Int) == 46) = false := by simp; omega
            clear hdig hpt q1
            go_wp2
            exact bodyPost_ret (v := .tuple #[.int .i32 0, .int .i64 120]) (by simp [results, Tryd.results58, go_sem]) rfl ⟨rfl, Ext.refl _⟩
          · have t1 : decide ((48 : Int) ≤ (c.toNat : Int)) = false := by simp; omega
            by_cases q2 : c = 46
            · have t3 : ((c.toNat : Int) == 46) = true := by rw [q2]; rfl
              have t4 : decide (pt < 0) = false := by
                simp
                exact Int.not_lt.1 fun h => hpt ⟨q2, h⟩
              clear hdig hpt q1 q2
              go_wp2
              exact bodyPost_ret (v := .tuple #[.int .i32 0, .int .i64 120]) (by simp [results, Tryd.results58, go_sem]) rfl ⟨rfl, Ext.refl _⟩
            · have t3 : ((c.toNat : Int) == 46) = false := by
                simp
                intro e
                exact q2 (UInt8.toNat_inj.1 (by simpa using (by omega : c.toNat = 46)))
              clear hdig hpt q1 q2
              go_wp2
              exact bodyPost_ret (v := .tuple #[.int .i32 0, .int .i64 120]) (by simp [results, Tryd.results58, go_sem]) rfl ⟨rfl, Ext.refl _⟩
    · have hjl : j = b.length := by omega
      subst hjl
      have h := unhide HL
      rw [List.drop_length, look] at h
      obtain rfl : cn = 0 := unhide HBAD pt cn h.symm
      clear h HL HBAD hat0
      go_wp2
      exact bodyPost_ret (v := .tuple #[.int .i32 0, .int .i64 120]) (by simp [results, Tryd.results58, go_sem]) rfl ⟨rfl, Ext.refl _⟩

set_option maxHeartbeats 4000000 in
theorem refParse_bad_e (w : World)  :
    Calls Tryd.prog 58 #[.string ⟨([] : List UInt8).toArray⟩] w fun e w' => e = .returned (.tuple #[.int .i32 0, .int .i64 120]) ∧ Ext w w' := by
  obtain ⟨b, hb⟩ : ∃ b : List UInt8, b = [] := ⟨_, rfl⟩
  have hbad : ∀ pt cn, look b 0 (-1) 0 = some (pt, cn) → cn = 0 := by
    intro pt cn h
    rw [hb] at h
    simp [look] at h
    exact h.2.symm
  have hbs : (⟨b.toArray⟩ : ByteArray).size = b.length := Lib.size_mk _
  have hbl : b.length = 0 := by rw [hb]; rfl
  rw [← hb]
  have HB := hide hb
  clear hb
  have HBAD := hide hbad
  clear hbad
  have heq : b = [] := unhide HB
  rw [heq]
  clear heq
  go_enter Tryd.func58, Tryd.ntmps58
  go_wp2
  go_loop [5, 6, 32] (fun p k i => p = .int .i64 (-1) ∧ k = .int .i64 0 ∧ i = .int .i64 0) (fun _ _ _ => 0)
  case atStart => exact ⟨rfl, rfl, rfl⟩
  case round =>
    obtain ⟨rfl, rfl, rfl⟩ := hrel
    go_wp2
    exact bodyPost_ret (v := .tuple #[.int .i32 0, .int .i64 120]) (by simp [results, Tryd.results58, go_sem]) rfl ⟨rfl, Ext.refl _⟩

theorem refParse_long (l : List UInt8) (w : World) (hlen : 40 < l.length) :
    Calls Tryd.prog 58 #[.string ⟨l.toArray⟩] w fun e w' => e = .returned (.tuple #[.int .i32 0, .int .i64 3]) ∧ Ext w w' := by
  have hbs : (⟨l.toArray⟩ : ByteArray).size = l.length := Lib.size_mk _
  have t1 : decide ((40 : Int) < (l.length : Int)) = true := by simp; omega
  go_enter Tryd.func58, Tryd.ntmps58
  go_wp2
  exact bodyPost_ret (v := .tuple #[.int .i32 0, .int .i64 3]) (by simp [results, Tryd.results58, go_sem]) rfl ⟨rfl, Ext.refl _⟩
end Go.Proofs.YtdcamcpffiilbaaDoor

/-
  The document's Parse answers what fix's does, at every text.
-/
namespace Go.Proofs.YtdcamcpffiilbaaDoor
open Go.RowKit
set_option linter.unusedSimpArgs false
set_option linter.unusedVariables false

theorem number_same (A B : List UInt8) (m g pt : Bool) (U : Int) (hA : ∀ c ∈ A, isDig c) (hB : ∀ c ∈ B, isDig c) :
    Dec.number ⟨m, g, pt, wfold A 0, pval B 100000000000000000, U⟩ = rawI (if m then -rawHalf A B else rawHalf A B) := by
  have h1 := wfold_eq A 0 (by omega) hA
  have h2 := nfold_eq A 0 (by omega) hA
  rw [show min (0 : Int) 65536 = 0 by omega] at h1
  rw [show min (0 : Int) 1048576 = 0 by omega] at h2
  have h3 := pval_valN B 17 hB
  have h4 := part_round (valN B) B.length
  have hlt := valN_lt B hB
  have hq : valN B * 131072 / 10 ^ B.length < 131072 := by
    rw [Nat.div_lt_iff_lt_mul (Nat.pow_pos (by omega)), Nat.mul_comm]
    exact Nat.mul_lt_mul_of_pos_left hlt (by omega)
  have e17 : (((10 ^ 17 : Nat) : Int)) = 100000000000000000 := by rfl
  rw [e17] at h3
  show rawI (if m then -(wfold A 0 * 65536 + (pval B 100000000000000000 + 762939453125) / 1525878906250) else wfold A 0 * 65536 + (pval B 100000000000000000 + 762939453125) / 1525878906250) = _
  rw [h1, h3, h4]
  unfold rawHalf
  rw [h2]
  clear h1 h2 h3 h4 e17 hlt
  generalize valN B * 131072 / 10 ^ B.length = q at *
  have hD := dval_ge A 0 (by omega) hA
  generalize dval A 0 = D at *
  cases m
  · simp only [Bool.false_eq_true, if_false]
    unfold rawI clampI
    omega
  · simp only [if_true]
    unfold rawI clampI
    omega

theorem scan_good_w (A : List UInt8) (f m : Bool) (hA : ∀ c ∈ A, isDig c) (hk : A ≠ []) :
    scan A f ⟨m, false, false, 0, 0, 100000000000000000⟩ = (true, ⟨m, true, false, wfold A 0, pval [] 100000000000000000, 100000000000000000⟩) := by
  have h := scan_wholes A [] f m false 0 0 100000000000000000 hA
  rw [List.append_nil] at h
  rw [h]
  have hne : A.isEmpty = false := by simpa using hk
  simp [scan, hne, pval]
theorem scan_good_p (A B : List UInt8) (f m : Bool) (hA : ∀ c ∈ A, isDig c) (hB : ∀ c ∈ B, isDig c) :
    ∃ U, scan (A ++ 46 :: B) f ⟨m, false, false, 0, 0, 100000000000000000⟩ = (true, ⟨m, !A.isEmpty || !B.isEmpty, true, wfold A 0, pval B 100000000000000000, U⟩) := by
  rw [scan_wholes A _ f m false 0 0 100000000000000000 hA, scan, if_neg (by simp), if_pos ⟨rfl, rfl⟩]
  obtain ⟨U, e⟩ := scan_part B m (false || !A.isEmpty) (wfold A 0) 0 100000000000000000 hB
  refine ⟨U, ?_⟩
  rw [e]
  simp
theorem scan_bad (A : List UInt8) (c : UInt8) (r : List UInt8) (f m : Bool) (hA : ∀ c ∈ A, isDig c) (hc : ¬ isDig c) (h46 : c ≠ 46) (hf : c ≠ 45 ∨ f = false ∨ A ≠ []) :
    (scan (A ++ c :: r) f ⟨m, false, false, 0, 0, 100000000000000000⟩).1 = false := by
  rw [scan_wholes A _ f m false 0 0 100000000000000000 hA, scan, if_neg, if_neg (fun h => h46 h.1)]
  · rw [if_neg]
    exact hc
  · intro h
    rcases hf with hf | hf | hf
    · exact hf h.1
    · rw [hf] at h; simp at h
    · have hne : A.isEmpty = false := by simpa using hf
      rw [hne] at h
      simp at h
theorem scan_part_bad (B : List UInt8) (c : UInt8) (r : List UInt8) (m g : Bool) (W P U : Int) (hB : ∀ c ∈ B, isDig c) (hc : ¬ isDig c) :
    (scan (B ++ c :: r) false ⟨m, g, true, W, P, U⟩).1 = false := by
  induction B generalizing g P U with
  | nil =>
    rw [List.nil_append, scan, if_neg (by simp), if_neg (by simp), if_neg]
    exact hc
  | cons x B ih =>
    rw [List.cons_append, scan_dig x _ _ _ (hB x (by simp))]
    simp only [Dec.digit, if_true]
    exact ih _ _ _ (fun y hy => hB y (by simp [hy]))
theorem scan_twice (A B : List UInt8) (c : UInt8) (r : List UInt8) (f m : Bool) (hA : ∀ c ∈ A, isDig c) (hB : ∀ c ∈ B, isDig c) (hc : ¬ isDig c) :
    (scan (A ++ 46 :: (B ++ c :: r)) f ⟨m, false, false, 0, 0, 100000000000000000⟩).1 = false := by
  rw [scan_wholes A _ f m false 0 0 100000000000000000 hA, scan, if_neg (by simp), if_pos ⟨rfl, rfl⟩]
  exact scan_part_bad B c r _ _ _ _ _ hB hc

/-- What Parse answers, once the minus is taken. -/
def parsed (b : List UInt8) (f m : Bool) : Int × Int :=
  if ((scan b f ⟨m, false, false, 0, 0, 100000000000000000⟩).1 && (scan b f ⟨m, false, false, 0, 0, 100000000000000000⟩).2.digits) = true then ((scan b f ⟨m, false, false, 0, 0, 100000000000000000⟩).2.number, 0) else (0, 120)
theorem parseI_minus (b : List UInt8) (h : (45 :: b).length ≤ 40) : parseI (45 :: b) = parsed b false true := by
  have e : scan (45 :: b) true Dec.start = scan b false ⟨true, false, false, 0, 0, 100000000000000000⟩ := by
    rw [scan, if_pos ⟨rfl, rfl⟩]
    rfl
  unfold parseI parsed
  rw [if_neg (by omega), e]
theorem parseI_plain (b : List UInt8) (h : b.length ≤ 40) : parseI b = parsed b true false := by
  unfold parseI parsed
  rw [if_neg (by omega)]
  rfl
theorem parsed_w (A : List UInt8) (f m : Bool) (hA : ∀ c ∈ A, isDig c) (hk : A ≠ []) : parsed A f m = (rawI (if m then -rawHalf A [] else rawHalf A []), 0) := by
  unfold parsed
  rw [scan_good_w A f m hA hk]
  simp only [Bool.and_self, if_true]
  rw [number_same A [] m true false _ hA (by simp)]
theorem parsed_p (A B : List UInt8) (f m : Bool) (hA : ∀ c ∈ A, isDig c) (hB : ∀ c ∈ B, isDig c) (hk : A.length + B.length ≠ 0) : parsed (A ++ 46 :: B) f m = (rawI (if m then -rawHalf A B else rawHalf A B), 0) := by
  unfold parsed
  obtain ⟨U, e⟩ := scan_good_p A B f m hA hB
  have hd : (!A.isEmpty || !B.isEmpty) = true := by
    cases A <;> cases B <;> simp_all
  rw [e, hd]
  simp only [Bool.and_self, if_true]
  rw [number_same A B m true true _ hA hB]
theorem parsed_bad {b : List UInt8} {f m : Bool} (h : (scan b f ⟨m, false, false, 0, 0, 100000000000000000⟩).1 = false) : parsed b f m = (0, 120) := by
  unfold parsed
  rw [h]
  simp
theorem parsed_none : parsed [] false true = (0, 120) := by rfl
theorem parsed_dot (f m : Bool) : parsed ([] ++ 46 :: []) f m = (0, 120) := by
  have e : scan ([] ++ 46 :: []) f ⟨m, false, false, 0, 0, 100000000000000000⟩ = (true, ⟨m, false, true, 0, 0, 100000000000000000⟩) := by
    rw [List.nil_append, scan, if_neg (by simp), if_pos ⟨rfl, rfl⟩]
    rfl
  unfold parsed
  rw [e]
  rfl
theorem look_bad (A : List UInt8) (c : UInt8) (r : List UInt8) (hA : ∀ c ∈ A, isDig c) (hc : ¬ isDig c) (h46 : c ≠ 46) : look (A ++ c :: r) 0 (-1) 0 = none := by
  rw [look_digs _ _ _ _ _ hA, look, if_neg (by exact hc), if_neg (fun h => h46 h.1)]
theorem look_twice (A B : List UInt8) (c : UInt8) (r : List UInt8) (hA : ∀ c ∈ A, isDig c) (hB : ∀ c ∈ B, isDig c) (hc : ¬ isDig c) : look (A ++ 46 :: (B ++ c :: r)) 0 (-1) 0 = none := by
  rw [look_digs _ _ _ _ _ hA, look, if_neg (by decide), if_pos ⟨rfl, by omega⟩, look_digs _ _ _ _ _ hB, look, if_neg (by exact hc), if_neg (fun h => by have := h.2; omega)]

theorem refParse_minus (b : List UInt8) (w : World) (hlen : (45 :: b).length ≤ 40) :
    Calls Tryd.prog 58 #[.string ⟨(45 :: b).toArray⟩] w fun e w' => e = .returned (.tuple #[.int .i32 (parsed b false true).1, .int .i64 (parsed b false true).2]) ∧ Ext w w' := by
  rcases shape b with hA | ⟨A, B, rfl, hA, hB⟩ | ⟨A, c, r, rfl, hA, hc, h46⟩ | ⟨A, B, c, r, rfl, hA, hB, hc⟩
  · by_cases hk : b = []
    · subst hk
      rw [parsed_none]
      exact refParse_bad_m [] w hlen (fun pt cn h => by simp [look] at h; exact h.2.symm)
    · rw [parsed_w b false true hA hk]
      exact refParse_mw b w hA hk hlen
  · by_cases hk : A.length + B.length = 0
    · obtain ⟨rfl, rfl⟩ : A = [] ∧ B = [] := ⟨List.length_eq_zero_iff.1 (by omega), List.length_eq_zero_iff.1 (by omega)⟩
      rw [parsed_dot]
      exact refParse_bad_m _ w hlen (fun pt cn h => by simp [look] at h; exact h.2.symm)
    · rw [parsed_p A B false true hA hB hk]
      exact refParse_mp A B w hA hB hk hlen
  · rw [parsed_bad (scan_bad A c r false true hA hc h46 (.inr (.inl rfl)))]
    exact refParse_bad_m _ w hlen (fun pt cn h => by rw [look_bad A c r hA hc h46] at h; cases h)
  · rw [parsed_bad (scan_twice A B c r false true hA hB hc)]
    exact refParse_bad_m _ w hlen (fun pt cn h => by rw [look_twice A B c r hA hB hc] at h; cases h)

theorem refParse_plain (b : List UInt8) (w : World) (hlen : b.length ≤ 40) (hh : ∃ c0, b[0]? = some c0 ∧ c0 ≠ 45) :
    Calls Tryd.prog 58 #[.string ⟨b.toArray⟩] w fun e w' => e = .returned (.tuple #[.int .i32 (parsed b true false).1, .int .i64 (parsed b true false).2]) ∧ Ext w w' := by
  rcases shape b with hA | ⟨A, B, rfl, hA, hB⟩ | ⟨A, c, r, rfl, hA, hc, h46⟩ | ⟨A, B, c, r, rfl, hA, hB, hc⟩
  · by_cases hk : b = []
    · subst hk
      obtain ⟨c0, h, _⟩ := hh
      cases h
    · rw [parsed_w b true false hA hk]
      exact refParse_nw b w hA hk hlen
  · by_cases hk : A.length + B.length = 0
    · obtain ⟨rfl, rfl⟩ : A = [] ∧ B = [] := ⟨List.length_eq_zero_iff.1 (by omega), List.length_eq_zero_iff.1 (by omega)⟩
      rw [parsed_dot]
      exact refParse_bad_n _ w hlen hh (fun pt cn h => by simp [look] at h; exact h.2.symm)
    · rw [parsed_p A B true false hA hB hk]
      exact refParse_np A B w hA hB hk hlen
  · have hf : c ≠ 45 ∨ true = false ∨ A ≠ [] := by
      by_cases hA0 : A = []
      · subst hA0
        obtain ⟨c0, h, h45⟩ := hh
        simp at h
        exact .inl (h ▸ h45)
      · exact .inr (.inr hA0)
    rw [parsed_bad (scan_bad A c r true false hA hc h46 hf)]
    exact refParse_bad_n _ w hlen hh (fun pt cn h => by rw [look_bad A c r hA hc h46] at h; cases h)
  · rw [parsed_bad (scan_twice A B c r true false hA hB hc)]
    exact refParse_bad_n _ w hlen hh (fun pt cn h => by rw [look_twice A B c r hA hB hc] at h; cases h)

theorem refParse_any (l : List UInt8) (w : World) :
    Calls Tryd.prog 58 #[.string ⟨l.toArray⟩] w fun e w' => e = .returned (.tuple #[.int .i32 (parseI l).1, .int .i64 (parseI l).2]) ∧ Ext w w' := by
  by_cases h40 : 40 < l.length
  · have e : parseI l = (0, 3) := by unfold parseI; rw [if_pos h40]
    rw [e]
    exact refParse_long l w h40
  · cases l with
    | nil =>
      have e : parseI [] = (0, 120) := by rfl
      rw [e]
      exact refParse_bad_e w
    | cons c r =>
      by_cases h45 : c = 45
      · subst h45
        rw [parseI_minus r (by omega)]
        exact refParse_minus r w (by omega)
      · rw [parseI_plain (c :: r) (by omega)]
        exact refParse_plain (c :: r) w (by omega) ⟨c, rfl, h45⟩
end Go.Proofs.YtdcamcpffiilbaaDoor
