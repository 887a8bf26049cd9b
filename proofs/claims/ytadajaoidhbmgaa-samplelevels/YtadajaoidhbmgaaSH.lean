/-
  Colours: the document's down and Wrap. What the dump lacks is left out.
-/
import Derived.Test.YtadajaoidhbmgaaSB
namespace Go.Proofs.Ytadajaoidhbmgaa
open Go.RowKit
set_option linter.unusedVariables false
set_option linter.unusedSimpArgs false

theorem down_tdiv {p q : Int} (h : 0 < q) : p / q = if p < p.tdiv q * q then p.tdiv q - 1 else p.tdiv q := by
  have h1 := Int.tmod_add_mul_tdiv p q
  have hb := tmod_bd (i := p) h
  rw [Int.mul_comm q] at h1
  by_cases hn : p < p.tdiv q * q
  · rw [if_pos hn]
    have e : p = (p.tmod q + q) + q * (p.tdiv q - 1) := by rw [Int.mul_sub, Int.mul_comm q (p.tdiv q)]; omega
    conv => lhs; rw [e]
    rw [Int.add_mul_ediv_left _ _ (by omega), Int.ediv_eq_zero_of_lt (by omega) (by omega)]
    omega
  · rw [if_neg hn]
    have e : p = p.tmod q + q * (p.tdiv q) := by rw [Int.mul_comm q (p.tdiv q)]; omega
    conv => lhs; rw [e]
    rw [Int.add_mul_ediv_left _ _ (by omega), Int.ediv_eq_zero_of_lt (by omega) (by omega)]
    omega
theorem tdiv_bd {p q B : Int} (hq : 1 ≤ q) (hB : -B ≤ p ∧ p ≤ B) : -B ≤ p.tdiv q ∧ p.tdiv q ≤ B ∧ -(B + q) ≤ p.tdiv q * q ∧ p.tdiv q * q ≤ B + q := by
  have h1 := Int.tmod_add_mul_tdiv p q
  have hb := tmod_bd (i := p) (n := q) (by omega)
  rw [Int.mul_comm q] at h1
  have h2 := Int.natAbs_tdiv_le_natAbs p q
  omega

set_option maxHeartbeats 1000000 in
theorem down_any (p q : Int) (w : World) (hq : 1 ≤ q ∧ q ≤ 4294967296) (hp : -1152921504606846976 ≤ p ∧ p ≤ 1152921504606846976) :
    Calls Try.prog 26 #[.int .i64 p, .int .i64 q] w fun e w' => e = .returned (.int .i64 (p / q)) ∧ w' = w := by
  obtain ⟨b1, b2, b3, b4⟩ := tdiv_bd hq.1 (B := 1152921504606846976) (by omega)
  have E := hide (down_tdiv (p := p) (q := q) (by omega))
  have hn0 : (q == 0) = false := by rw [beq_eq_false_iff_ne]; omega
  have hn1 : ¬ q = 0 := by omega
  have hn2 : ¬ q = -1 := by omega
  obtain ⟨q1, q2⟩ := hq
  obtain ⟨p1, p2⟩ := hp
  by_cases hneg : p < p.tdiv q * q
  · rw [if_pos hneg] at E
    go_enter Try.func26, Try.ntmps26
    go_wp2
    go_ret
    rw [unhide E]
    exact ⟨rfl, rfl⟩
  · rw [if_neg hneg] at E
    go_enter Try.func26, Try.ntmps26
    go_wp2
    go_ret
    rw [unhide E]
    exact ⟨rfl, rfl⟩

/-- What the document's Wrap answers, by a mode that there is. -/
theorem wrapI_ref {m i n : Int} (h1 : 1 ≤ n) (h2 : n ≤ 64) : wrapI m i n = if m = 1 then i % n else if m = 2 then max 0 (min i (n - 1)) else if m = 3 then min (i % (2 * n)) (2 * n - 1 - i % (2 * n)) else 0 := by
  unfold wrapI
  rw [if_neg (by omega)]

set_option maxHeartbeats 1000000 in
theorem refWrap_any (m i n : Int) (w : World) (hm : 1 ≤ m ∧ m ≤ 3) (hn : 1 ≤ n ∧ n ≤ 64) (hi : -1152921504606846976 ≤ i ∧ i ≤ 1152921504606846976) :
    Calls Try.prog 37 #[.int .i64 m, .int .i64 i, .int .i64 n] w fun e w' => e = .returned (.int .i64 (wrapI m i n)) ∧ w' = w := by
  have E := hide (wrapI_ref (m := m) (i := i) hn.1 hn.2)
  obtain ⟨n1, n2⟩ := hn
  obtain ⟨i1, i2⟩ := hi
  by_cases m2 : m = 2
  · have d2 : (m == 2) = true := by rw [beq_iff_eq]; exact m2
    rw [if_neg (by omega), if_pos m2] at E
    clear m2 hm
    by_cases c0 : i < 0
    · replace E := hide (show wrapI m i n = 0 by rw [unhide E]; omega)
      go_enter Try.func37, Try.ntmps37
      go_wp2
      go_ret
      rw [unhide E]
      exact ⟨rfl, rfl⟩
    · by_cases c1 : n ≤ i
      · replace E := hide (show wrapI m i n = n - 1 by rw [unhide E]; omega)
        go_enter Try.func37, Try.ntmps37
        go_wp2
        go_ret
        rw [unhide E]
        exact ⟨rfl, rfl⟩
      · replace E := hide (show wrapI m i n = i by rw [unhide E]; omega)
        go_enter Try.func37, Try.ntmps37
        go_wp2
        go_ret
        rw [unhide E]
        exact ⟨rfl, rfl⟩
  have d2 : (m == 2) = false := by rw [beq_eq_false_iff_ne]; exact m2
  by_cases m1 : m = 1
  · have d1 : (m == 1) = true := by rw [beq_iff_eq]; exact m1
    rw [if_pos m1] at E
    clear m1 m2 hm
    have hd := Int.emod_add_mul_ediv i n
    have hr1 := Int.emod_nonneg i (show n ≠ 0 by omega)
    have hr2 := Int.emod_lt_of_pos i (show 0 < n by omega)
    rw [Int.mul_comm n] at hd
    replace E := hide (show wrapI m i n = i - i / n * n by rw [unhide E]; omega)
    have b1 : -1152921504606847104 ≤ i / n * n ∧ i / n * n ≤ 1152921504606847104 := by omega
    obtain ⟨b1, b2⟩ := b1
    clear hd
    go_enter Try.func37, Try.ntmps37
    go_wp2_with fail
    refine (down_any i n _ ⟨by omega, by omega⟩ ⟨by omega, by omega⟩).mono ?_
    rintro e w1 ⟨rfl, rfl⟩
    go_wp2
    go_ret
    rw [unhide E]
    exact ⟨rfl, rfl⟩
  have d1 : (m == 1) = false := by rw [beq_eq_false_iff_ne]; exact m1
  rw [if_neg m1, if_neg m2, if_pos (by omega)] at E
  clear m1 m2 hm
  have hd := Int.emod_add_mul_ediv i (2 * n)
  have hr1 := Int.emod_nonneg i (show 2 * n ≠ 0 by omega)
  have hr2 := Int.emod_lt_of_pos i (show 0 < 2 * n by omega)
  have hq1 : -1152921504606846976 ≤ i / (2 * n) ∧ i / (2 * n) ≤ 1152921504606846976 := by
    constructor
    · have h9 := Int.ediv_le_ediv (a := -1152921504606846976) (b := i) (c := 2 * n) (by omega) i1
      have h8 : -1152921504606846976 ≤ -1152921504606846976 / (2 * n) := by
        refine Int.le_ediv_of_mul_le (by omega) ?_
        have := Int.mul_le_mul_of_nonneg_left (show 1 ≤ 2 * n by omega) (show (0 : Int) ≤ 1152921504606846976 by decide)
        omega
      omega
    · have h9 := Int.ediv_le_ediv (a := i) (b := 1152921504606846976) (c := 2 * n) (by omega) i2
      have h8 : 1152921504606846976 / (2 * n) ≤ 1152921504606846976 := Int.ediv_le_self _ (by decide)
      omega
  have e2 : 2 * n * (i / (2 * n)) = i / (2 * n) * 2 * n := by rw [Int.mul_comm (2 * n), Int.mul_assoc]
  rw [e2] at hd
  have hx : i - i / (2 * n) * 2 * n = i % (2 * n) := by omega
  have HX := hide hx
  have b1 : -1152921504606847104 ≤ i / (2 * n) * 2 * n ∧ i / (2 * n) * 2 * n ≤ 1152921504606847104 := by omega
  have b3 : -4611686018427387904 ≤ i / (2 * n) * 2 ∧ i / (2 * n) * 2 ≤ 4611686018427387904 := by omega
  obtain ⟨b1, b2⟩ := b1
  obtain ⟨b3, b4⟩ := b3
  clear hd e2 hx hq1
  go_enter Try.func37, Try.ntmps37
  go_wp2_with fail
  refine (down_any i (2 * n) _ ⟨by omega, by omega⟩ ⟨by omega, by omega⟩).mono ?_
  rintro e w1 ⟨rfl, rfl⟩
  generalize i / (2 * n) = y at *
  generalize i % (2 * n) = z at *
  have hx := unhide HX
  by_cases c1 : z < n
  · replace E := hide (show wrapI m i n = i - y * 2 * n by rw [unhide E]; omega)
    have c2 : i - y * 2 * n < n := by omega
    clear hx
    go_wp2
    go_ret
    rw [unhide E]
    exact ⟨rfl, rfl⟩
  · replace E := hide (show wrapI m i n = 2 * n - 1 - (i - y * 2 * n) by rw [unhide E]; omega)
    have c2 : ¬ i - y * 2 * n < n := by omega
    clear hx
    go_wp2
    go_ret
    rw [unhide E]
    exact ⟨rfl, rfl⟩
end Go.Proofs.Ytadajaoidhbmgaa
