/-
  Plain facts on means of pixels, and the levels that follow from one. Nothing here speaks of the program.
-/
import Derived.Test.YtpjapdifmfpcnaaIA
namespace Go.Proofs.Ytpjapdifmfpcnaa
open Go.RowKit

/-- The sum of a channel of k bits from bit p on. -/
def chanS (p k : Nat) : List Int → Int
  | [] => 0
  | g :: r => g / 2 ^ p % 2 ^ k + chanS p k r
/-- The mean of a channel. -/
def chan (p k : Nat) (G : List Int) : Int := (chanS p k G + (G.length : Int) / 2) / (G.length : Int)
/-- The means of channels, as one number. -/
def meanN : List Nat → Nat → List Int → Int
  | [], _, _ => 0
  | k :: ks, p, G => chan p k G * 2 ^ p + meanN ks (p + k) G
/-- The channels of a format, the lowest first. -/
def chs8 (f : Int) : List Nat := if f = 1 then [8, 8, 8, 8] else if f = 2 then [5, 6, 5] else if f = 3 then [4, 4, 4, 4] else if f = 4 then [1, 5, 5, 5] else if f = 7 then [8, 8] else [8]

theorem chanS_snoc (p k : Nat) (G : List Int) (g : Int) : chanS p k (G ++ [g]) = chanS p k G + g / 2 ^ p % 2 ^ k := by
  induction G with
  | nil => simp [chanS]
  | cons x r ih => simp only [List.cons_append, chanS, ih]; omega
theorem two_pow_pos (k : Nat) : (1 : Int) ≤ 2 ^ k := by
  have h : 0 < 2 ^ k := Nat.pow_pos (by decide)
  have e : (2 : Int) ^ k = ((2 ^ k : Nat) : Int) := by simp
  omega
theorem chanS_bound (p k : Nat) (G : List Int) : 0 ≤ chanS p k G ∧ chanS p k G ≤ (G.length : Int) * (2 ^ k - 1) := by
  induction G with
  | nil => simp [chanS]
  | cons x r ih =>
    have h2 := two_pow_pos k
    have a := Int.emod_nonneg (x / 2 ^ p) (show (2 : Int) ^ k ≠ 0 by omega)
    have b := Int.emod_lt_of_pos (x / 2 ^ p) (show (0 : Int) < 2 ^ k by omega)
    simp only [chanS, List.length_cons]
    have e : ((r.length + 1 : Nat) : Int) * (2 ^ k - 1) = (r.length : Int) * (2 ^ k - 1) + (2 ^ k - 1) := by
      rw [Int.natCast_add, Int.add_mul]
      simp
    omega
theorem chan_bound (p k : Nat) (G : List Int) (hG : 0 < G.length) : 0 ≤ chan p k G ∧ chan p k G < 2 ^ k := by
  obtain ⟨a, b⟩ := chanS_bound p k G
  have h2 := two_pow_pos k
  unfold chan
  refine ⟨Int.ediv_nonneg (by omega) (by omega), ?_⟩
  refine Int.ediv_lt_of_lt_mul (by omega) ?_
  have e : (2 : Int) ^ k * (G.length : Int) = (G.length : Int) * (2 ^ k - 1) + (G.length : Int) := by
    rw [Int.mul_sub, Int.mul_one, Int.mul_comm]
    omega
  rw [e]
  omega
theorem meanN_snoc (ks : List Nat) (k p : Nat) (G : List Int) : meanN (ks ++ [k]) p G = meanN ks p G + chan (p + ks.sum) k G * 2 ^ (p + ks.sum) := by
  induction ks generalizing p with
  | nil => simp [meanN]
  | cons x r ih =>
    simp only [List.cons_append, meanN, ih, List.sum_cons]
    rw [Nat.add_assoc, Int.add_assoc]
theorem meanN_bound (ks : List Nat) (p : Nat) (G : List Int) (hG : 0 < G.length) : 0 ≤ meanN ks p G ∧ meanN ks p G ≤ 2 ^ (p + ks.sum) - 2 ^ p := by
  induction ks generalizing p with
  | nil => simp [meanN]
  | cons k r ih =>
    obtain ⟨a, b⟩ := ih (p + k)
    obtain ⟨c, d⟩ := chan_bound p k G hG
    have h2 := two_pow_pos p
    simp only [meanN, List.sum_cons]
    rw [show p + (k + r.sum) = p + k + r.sum by omega]
    have e : (2 : Int) ^ (p + k) = 2 ^ k * 2 ^ p := by rw [Int.pow_add, Int.mul_comm]
    have h3 : chan p k G * 2 ^ p ≤ (2 ^ k - 1) * 2 ^ p := Int.mul_le_mul_of_nonneg_right (by omega) (by omega)
    have h4 : 0 ≤ chan p k G * 2 ^ p := Int.mul_nonneg c (by omega)
    rw [Int.sub_mul, Int.one_mul, ← e] at h3
    omega
theorem meanN_lt (ks : List Nat) (G : List Int) (hG : 0 < G.length) : 0 ≤ meanN ks 0 G ∧ meanN ks 0 G < 2 ^ ks.sum := by
  have h := meanN_bound ks 0 G hG
  rw [Nat.zero_add] at h
  simp at h
  omega

/-! ### Pixels that follow -/
/-- The pixels of which the one at x, y is the mean. -/
def grp (s W H : Nat) (xs : List Int) (x y : Nat) : List (List Int) := (List.range (min 2 W * min 2 H)).map fun k => cellL s xs (pq W (2 * x) (2 * y) (min 2 W) k)
/-- The mean of pixels, as bytes. -/
def meanB (ks : List Nat) (s : Nat) (G : List (List Int)) : List Int := low (meanN ks 0 (G.map numOf)) s
def hN (n : Nat) : Nat := max 1 (n / 2)
theorem hN_half (n : Nat) : ((hN n : Nat) : Int) = half (n : Int) := by unfold hN half; omega
/-- The bytes of the first j pixels that follow. -/
def nb (ks : List Nat) (s W H : Nat) (xs : List Int) : Nat → List Int
  | 0 => []
  | j + 1 => nb ks s W H xs j ++ meanB ks s (grp s W H xs (j % hN W) (j / hN W))
theorem nb_len (ks : List Nat) (s W H : Nat) (xs : List Int) (j : Nat) : (nb ks s W H xs j).length = j * s := by
  induction j with
  | zero => simp [nb]
  | succ j ih => rw [nb, List.length_append, ih, meanB, low_length, Nat.succ_mul]
theorem nb_byt (ks : List Nat) (s W H : Nat) (xs : List Int) (j : Nat) : Byt (nb ks s W H xs j) := by
  induction j with
  | zero => intro x hx; cases hx
  | succ j ih => exact ih.append (low_byt _ _)
/-- The level that follows. -/
def nxt (ks : List Nat) (s : Nat) (l : Lev) : Lev := (half l.1, half l.2.1, nb ks s l.1.toNat l.2.1.toNat l.2.2 (hN l.1.toNat * hN l.2.1.toNat))
def itL (ks : List Nat) (s : Nat) (l : Lev) : Nat → Lev
  | 0 => l
  | n + 1 => nxt ks s (itL ks s l n)
/-- A level and the n that follow. -/
def chn (ks : List Nat) (s : Nat) (l : Lev) (n : Nat) : List Lev := (List.range (n + 1)).map (itL ks s l)
theorem chn_len (ks : List Nat) (s : Nat) (l : Lev) (n : Nat) : (chn ks s l n).length = n + 1 := by simp [chn]
theorem chn_succ (ks : List Nat) (s : Nat) (l : Lev) (n : Nat) : chn ks s l (n + 1) = chn ks s l n ++ [nxt ks s (itL ks s l n)] := by
  unfold chn
  rw [List.range_succ, List.map_append]
  rfl
theorem chn_zero (ks : List Nat) (s : Nat) (l : Lev) : chn ks s l 0 = [l] := rfl
theorem chn_get (ks : List Nat) (s : Nat) (l : Lev) (n i : Nat) (h : i < n + 1) : (chn ks s l n)[i]'(by rw [chn_len]; exact h) = itL ks s l i := by simp [chn]
theorem itL_w (ks : List Nat) (s : Nat) (l : Lev) (n : Nat) : (itL ks s l n).1 = halfs l.1 n ∧ (itL ks s l n).2.1 = halfs l.2.1 n := by
  induction n with
  | zero => exact ⟨rfl, rfl⟩
  | succ n ih =>
    unfold itL nxt halfs
    rw [ih.1, ih.2]
    exact ⟨rfl, rfl⟩
theorem itL_byt {ks : List Nat} {s : Nat} {l : Lev} (h : Byt l.2.2) (n : Nat) : Byt (itL ks s l n).2.2 := by
  cases n with
  | zero => exact h
  | succ n => exact nb_byt _ _ _ _ _ _
theorem itL_good {ks : List Nat} {s : Nat} {l : Lev} (h : goodB s l = true) (n : Nat) : goodB s (itL ks s l n) = true := by
  induction n with
  | zero => exact h
  | succ n ih =>
    obtain ⟨a, b, c⟩ := goodB_iff.1 ih
    refine goodB_iff.2 ⟨half_side a, half_side b, ?_⟩
    show ((nb _ _ _ _ _ _).length : Int) = half _ * half _ * _
    have e1 : half (itL ks s l n).1 = ((hN (itL ks s l n).1.toNat : Nat) : Int) := by rw [hN_half, Int.toNat_of_nonneg (by omega)]
    have e2 : half (itL ks s l n).2.1 = ((hN (itL ks s l n).2.1.toNat : Nat) : Int) := by rw [hN_half, Int.toNat_of_nonneg (by omega)]
    rw [nb_len, e1, e2]
    simp
/-- A pixel laid behind those that are. -/
theorem lay_nb (A ys : List Int) (m : Nat) : layB (A ++ List.replicate m 0) A.length ys = A ++ ys ++ List.replicate (m - ys.length) 0 := by
  unfold layB
  rw [List.take_left, List.drop_append, List.drop_of_length_le (by omega), List.nil_append, Nat.add_sub_cancel_left, List.drop_replicate]
theorem grp_len (s W H : Nat) (xs : List Int) (x y : Nat) : (grp s W H xs x y).length = min 2 W * min 2 H := by simp [grp]
theorem grp_pos {s W H : Nat} {xs : List Int} {x y : Nat} (hW : 1 ≤ W) (hH : 1 ≤ H) : 0 < (grp s W H xs x y).length := by
  rw [grp_len]
  exact Nat.mul_pos (by omega) (by omega)

/-! ### Bits -/
/-- One more bit, above all that are set. -/
theorem low_bit (N : Int) (q n : Nat) (h0 : 0 ≤ N) (hN : N < 2 ^ q) (hq : q < 8 * n) : low (N + 2 ^ q) n = (low N n).set (q / 8) ((low N n).getD (q / 8) 0 + 2 ^ (q % 8)) ∧ 0 ≤ (low N n).getD (q / 8) 0 ∧ (low N n).getD (q / 8) 0 + 2 ^ (q % 8) < 256 := by
  induction n generalizing N q with
  | zero => omega
  | succ n ih =>
    by_cases hq8 : q < 8
    · have e1 : q / 8 = 0 := Nat.div_eq_of_lt hq8
      have e2 : q % 8 = q := Nat.mod_eq_of_lt hq8
      rw [e1, e2]
      have hb : (2 : Int) ^ q ≤ 128 := by
        rcases (by omega : q = 0 ∨ q = 1 ∨ q = 2 ∨ q = 3 ∨ q = 4 ∨ q = 5 ∨ q = 6 ∨ q = 7) with rfl | rfl | rfl | rfl | rfl | rfl | rfl | rfl <;> decide
      have hm : N % 256 = N := Int.emod_eq_of_lt h0 (by omega)
      have hm2 : (N + 2 ^ q) % 256 = N + 2 ^ q := Int.emod_eq_of_lt (by have := two_pow_pos q; omega) (by omega)
      have hd : N / 256 = 0 := Int.ediv_eq_zero_of_lt h0 (by omega)
      have hd2 : (N + 2 ^ q) / 256 = 0 := Int.ediv_eq_zero_of_lt (by have := two_pow_pos q; omega) (by omega)
      simp only [low, hm, hm2, hd, hd2, List.set_cons_zero, List.getD_cons_zero]
      exact ⟨trivial, h0, by omega⟩
    · obtain ⟨p, rfl⟩ : ∃ p, q = p + 8 := ⟨q - 8, by omega⟩
      have e1 : (p + 8) / 8 = p / 8 + 1 := by omega
      have e2 : (p + 8) % 8 = p % 8 := by omega
      have e3 : (2 : Int) ^ (p + 8) = 2 ^ p * 256 := by rw [Int.pow_add]; rfl
      rw [e1, e2]
      have hN2 : N / 256 < 2 ^ p := Int.ediv_lt_of_lt_mul (by omega) (by rw [← e3]; exact hN)
      obtain ⟨i1, i2, i3⟩ := ih (N / 256) p (by omega) hN2 (by omega)
      have hm : (N + 2 ^ (p + 8)) % 256 = N % 256 := by rw [e3]; exact Int.add_mul_emod_self_right _ _ _
      have hd : (N + 2 ^ (p + 8)) / 256 = N / 256 + 2 ^ p := by rw [e3]; exact Int.add_mul_ediv_right _ _ (by omega)
      simp only [low, hm, hd, List.set_cons_succ, List.getD_cons_succ]
      exact ⟨by rw [i1], i2, i3⟩
theorem mod_next (m : Int) (i : Nat) : m % 2 ^ (i + 1) = m % 2 ^ i + 2 ^ i * (m / 2 ^ i % 2) := by
  have e : (2 : Int) ^ (i + 1) = 2 ^ i * 2 := Int.pow_succ _ _
  have h2 := two_pow_pos i
  rw [e]
  have h1 := Int.mul_ediv_add_emod m (2 ^ i)
  have h3 := Int.mul_ediv_add_emod (m / 2 ^ i) 2
  have h4 := Int.mul_ediv_add_emod m (2 ^ i * 2)
  have h5 : m / (2 ^ i * 2) = m / 2 ^ i / 2 := (Int.ediv_ediv_of_nonneg (by omega)).symm
  rw [h5] at h4
  generalize m / 2 ^ i = x at *
  generalize x % 2 = y at *
  generalize x / 2 = z at *
  generalize (2 : Int) ^ i = P at *
  subst h3
  have e6 : P * 2 * z = P * (2 * z) := by rw [Int.mul_assoc]
  rw [e6] at h4
  rw [Int.mul_add] at h1
  omega
theorem emod_two (x a b : Int) (ha : 0 ≤ a) : x % (a * b) = x % a + a * (x / a % b) := by
  have h1 := Int.mul_ediv_add_emod x a
  have h3 := Int.mul_ediv_add_emod (x / a) b
  have h4 := Int.mul_ediv_add_emod x (a * b)
  have h5 : x / (a * b) = x / a / b := (Int.ediv_ediv_of_nonneg ha).symm
  rw [h5] at h4
  generalize x / a = y at *
  generalize y % b = u at *
  generalize y / b = z at *
  subst h3
  rw [Int.mul_assoc] at h4
  rw [Int.mul_add] at h1
  omega
/-- A mean of pixels all of which are the same. -/
theorem chanS_same (p k : Nat) (c : Int) (n : Nat) : chanS p k (List.replicate n c) = n * (c / 2 ^ p % 2 ^ k) := by
  induction n with
  | zero => simp [chanS]
  | succ n ih =>
    rw [List.replicate_succ, chanS, ih, Int.natCast_add, Int.add_mul]
    simp
    omega
theorem chan_same (p k : Nat) (c : Int) (n : Nat) (hn : 0 < n) : chan p k (List.replicate n c) = c / 2 ^ p % 2 ^ k := by
  unfold chan
  rw [chanS_same, List.length_replicate, Int.add_comm, Int.add_mul_ediv_left _ _ (by omega), Int.ediv_eq_zero_of_lt (by omega) (by omega), Int.zero_add]
theorem meanN_same (ks : List Nat) (c : Int) (p n : Nat) (hn : 0 < n) : meanN ks p (List.replicate n c) = c / 2 ^ p % 2 ^ ks.sum * 2 ^ p := by
  induction ks generalizing p with
  | nil => simp [meanN]
  | cons k r ih =>
    rw [meanN, ih, chan_same _ _ _ _ hn, List.sum_cons]
    have e1 : (2 : Int) ^ (p + k) = 2 ^ p * 2 ^ k := Int.pow_add _ _ _
    have e2 : (2 : Int) ^ (k + r.sum) = 2 ^ k * 2 ^ r.sum := Int.pow_add _ _ _
    have hp := two_pow_pos p
    have hk := two_pow_pos k
    rw [e1, e2, ← Int.ediv_ediv_of_nonneg (by omega)]
    generalize c / 2 ^ p = x
    have h1 := Int.mul_ediv_add_emod x (2 ^ k)
    have h2 : x % (2 ^ k * 2 ^ r.sum) = x % 2 ^ k + 2 ^ k * (x / 2 ^ k % 2 ^ r.sum) := emod_two x _ _ (by omega)
    rw [h2, Int.add_mul]
    congr 1
    generalize x / 2 ^ k % 2 ^ r.sum = y
    generalize (2 : Int) ^ k = K
    generalize (2 : Int) ^ p = P
    rw [Int.mul_comm P K, ← Int.mul_assoc, Int.mul_comm y K]
end Go.Proofs.Ytpjapdifmfpcnaa
