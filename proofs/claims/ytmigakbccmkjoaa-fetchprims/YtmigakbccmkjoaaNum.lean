/-
  Plain facts on bytes as numbers. Nothing here speaks of the program.
-/
import Derived.Test.YtmigakbccmkjoaaLem
namespace Go.Proofs.Ytmigakbccmkjoaa
open Go.RowKit

/-- The number of bytes, the lowest first. -/
def numOf : List Int → Int
  | [] => 0
  | x :: r => x + 256 * numOf r

theorem numOf_snoc (l : List Int) (c : Int) : numOf (l ++ [c]) = numOf l + 256 ^ l.length * c := by
  induction l with
  | nil => simp [numOf]
  | cons x r ih =>
    simp only [List.cons_append, numOf, ih, List.length_cons, Int.pow_succ]
    rw [Int.mul_add, Int.mul_comm (256 ^ r.length) 256, Int.mul_assoc, Int.add_assoc]

theorem numOf_bound (l : List Int) (h : Byt l) : 0 ≤ numOf l ∧ numOf l < 256 ^ l.length := by
  induction l with
  | nil => simp [numOf]
  | cons x r ih =>
    have h1 := ih (fun y hy => h y (by simp [hy]))
    have h2 := h x (by simp)
    simp only [numOf, List.length_cons, Int.pow_succ]
    omega

theorem or_nat (x c k : Nat) (hx : x < 2 ^ k) (hc : c * 2 ^ k < 4294967296) (hx2 : x < 4294967296) : bits .or .u32 (x : Int) ((c * 2 ^ k : Nat) : Int) = ((x + c * 2 ^ k : Nat) : Int) := by
  rw [u32_or_nat x (c * 2 ^ k) hx2 hc]
  congr 1
  rw [Nat.or_comm, Nat.mul_comm, ← Nat.two_pow_add_eq_or_of_lt hx, Nat.add_comm]

theorem or_step (x c : Int) (k : Nat) (hk : k < 4) (h0 : 0 ≤ x) (hx : x < 256 ^ k) (hc0 : 0 ≤ c) (hc : c ≤ 255) :
    bits .or .u32 x (c % 4294967296 * 2 ^ (8 * k) % 4294967296) = x + 256 ^ k * c := by
  obtain ⟨X, rfl⟩ := Int.eq_ofNat_of_zero_le h0
  obtain ⟨C, rfl⟩ := Int.eq_ofNat_of_zero_le hc0
  have key : ∀ j : Nat, (X : Int) < 2 ^ j → 2 ^ j ≤ 16777216 → bits .or .u32 (X : Int) ((C : Int) % 4294967296 * 2 ^ j % 4294967296) = (X : Int) + 2 ^ j * (C : Int) := by
    intro j hj h16
    have hj' : X < 2 ^ j := by
      have : ((2 ^ j : Nat) : Int) = (2 : Int) ^ j := by simp
      omega
    have hC : C * 2 ^ j ≤ 255 * 2 ^ j := Nat.mul_le_mul_right _ (by omega)
    have e : ((C : Int) % 4294967296 * 2 ^ j % 4294967296) = ((C * 2 ^ j : Nat) : Int) := by
      have e1 : (C : Int) % 4294967296 = (C : Int) := Int.emod_eq_of_lt (by omega) (by omega)
      rw [e1]
      have e2 : (C : Int) * 2 ^ j = ((C * 2 ^ j : Nat) : Int) := by simp
      rw [e2, Int.emod_eq_of_lt (by omega) (by omega)]
    rw [e, or_nat X C j hj' (by omega) (by omega)]
    simp [Int.mul_comm]
  have e256 : (256 : Int) ^ k = 2 ^ (8 * k) := by rw [Int.pow_mul]; rfl
  rw [e256]
  refine key (8 * k) (by rw [← e256]; exact hx) ?_
  have : 2 ^ (8 * k) ≤ 2 ^ 24 := Nat.pow_le_pow_right (by decide) (by omega)
  simpa using this

theorem take_snoc (l : List Int) (k : Nat) (h : k < l.length) : l.take (k + 1) = l.take k ++ [l[k]] := List.take_succ_eq_append_getElem h

theorem num_step (cs : List Int) (k : Nat) (hlt : k < cs.length) (h4 : cs.length ≤ 4) (hB : Byt cs) :
    bits .or .u32 (numOf (cs.take k)) (cs[k] % 4294967296 * 2 ^ (8 * k) % 4294967296) = numOf (cs.take (k + 1)) := by
  have hb := numOf_bound (cs.take k) (fun x hx => hB x (List.mem_of_mem_take hx))
  have hl : (cs.take k).length = k := by simp; omega
  rw [hl] at hb
  have hc := hB cs[k] (List.getElem_mem hlt)
  rw [or_step _ _ k (by omega) hb.1 hb.2 hc.1 hc.2, take_snoc cs k hlt, numOf_snoc, hl]

/-- The signed number, half of whose range is h. -/
def sgn (h x : Int) : Int := if x < h then x else x - 2 * h

theorem sgn8 {x : Int} (h0 : 0 ≤ x) (h1 : x < 256) : IntKind.i8.wrap x = sgn 128 x := by
  simp only [IntKind.wrap, IntKind.bits, IntKind.signed, sgn, show ((2 : Int) ^ 8) = 256 from rfl, show ((2 : Int) ^ (8 - 1)) = 128 from rfl, Bool.true_and, decide_eq_true_eq, Int.emod_eq_of_lt h0 h1]
  split <;> split <;> omega
theorem sgn16 {x : Int} (h0 : 0 ≤ x) (h1 : x < 65536) : IntKind.i16.wrap x = sgn 32768 x := by
  simp only [IntKind.wrap, IntKind.bits, IntKind.signed, sgn, show ((2 : Int) ^ 16) = 65536 from rfl, show ((2 : Int) ^ (16 - 1)) = 32768 from rfl, Bool.true_and, decide_eq_true_eq, Int.emod_eq_of_lt h0 h1]
  split <;> split <;> omega
theorem sgn32 {x : Int} (h0 : 0 ≤ x) (h1 : x < 4294967296) : wrap32 x = sgn 2147483648 x := by unfold wrap32 sgn; split <;> omega
theorem ret_int {k : IntKind} {a b : Int} (h : a = b) : Ending.returned (.int k a) = .returned (.int k b) := by rw [h]
theorem numOf_le (l : List Int) (h : Byt l) (n : Nat) (hn : l.length ≤ n) : 0 ≤ numOf l ∧ numOf l < 256 ^ n := by
  have h1 := numOf_bound l h
  refine ⟨h1.1, Int.lt_of_lt_of_le h1.2 ?_⟩
  have h2 : 256 ^ l.length ≤ 256 ^ n := Nat.pow_le_pow_right (by decide) hn
  have h3 := Int.ofNat_le.2 h2
  simpa using h3

/-- A number's bytes, so many, the lowest first. -/
def low (x : Int) : Nat → List Int
  | 0 => []
  | n + 1 => x % 256 :: low (x / 256) n

theorem low_length (x : Int) (n : Nat) : (low x n).length = n := by
  induction n generalizing x with
  | zero => rfl
  | succ n ih => simp [low, ih]
theorem low_byt (x : Int) (n : Nat) : Byt (low x n) := by
  induction n generalizing x with
  | zero => intro y hy; cases hy
  | succ n ih =>
    intro y hy
    rcases List.mem_cons.1 hy with rfl | hy
    · omega
    · exact ih _ y hy
theorem low_snoc (x : Int) (n : Nat) : low x (n + 1) = low x n ++ [x / 256 ^ n % 256] := by
  induction n generalizing x with
  | zero => simp [low]
  | succ n ih =>
    rw [low, ih, low, List.cons_append, Int.pow_succ, Int.mul_comm (256 ^ n) 256, ← Int.ediv_ediv_of_nonneg (by omega)]

theorem set_mid (l : List Int) (m : Nat) (c : Int) (hm : 0 < m) : (l ++ List.replicate m 0).set l.length c = l ++ [c] ++ List.replicate (m - 1) 0 := by
  obtain ⟨j, rfl⟩ : ∃ j, m = j + 1 := ⟨m - 1, by omega⟩
  rw [List.set_append_right _ _ (Nat.le_refl _), Nat.sub_self, List.replicate_succ, List.set_cons_zero, Nat.add_sub_cancel, List.append_assoc]
  rfl
theorem low_mod16 (x : Int) : low (x % 65536) 2 = low x 2 := by
  simp only [low, List.cons.injEq, and_true]
  omega
end Go.Proofs.Ytmigakbccmkjoaa
