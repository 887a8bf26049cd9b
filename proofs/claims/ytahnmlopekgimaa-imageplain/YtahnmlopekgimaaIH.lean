/-
  Images, plain: a level of one colour has all levels of that colour.
-/
import Derived.Test.YtahnmlopekgimaaIB
namespace Go.Proofs.Ytahnmlopekgimaa
set_option linter.unusedVariables false
set_option linter.unusedSimpArgs false

theorem chanS_rep (p k g : Nat) (x : Int) : chanS p k (List.replicate g x) = (g : Int) * (x / 2 ^ p % 2 ^ k) := by
  induction g with
  | zero => simp [chanS]
  | succ g ih =>
    rw [List.replicate_succ, chanS, ih, Int.natCast_add, Int.add_mul]
    simp
    omega
theorem chan_rep (p k g : Nat) (x : Int) (hg : 0 < g) : chan p k (List.replicate g x) = x / 2 ^ p % 2 ^ k := by
  unfold chan
  rw [chanS_rep, List.length_replicate]
  generalize x / 2 ^ p % 2 ^ k = c
  have h1 : (0 : Int) < (g : Int) := by omega
  rw [Int.mul_comm, Int.add_comm, Int.add_mul_ediv_right _ _ (by omega), Int.ediv_eq_zero_of_lt (by omega) (by omega)]
  omega
theorem mod_split (X a b : Nat) : (X : Int) % 2 ^ (a + b) = (X : Int) % 2 ^ a + (X : Int) / 2 ^ a % 2 ^ b * 2 ^ a := by
  have e : ∀ n : Nat, (2 : Int) ^ n = ((2 ^ n : Nat) : Int) := fun n => by simp
  rw [e, e, e, ← Int.natCast_emod, ← Int.natCast_emod, ← Int.natCast_ediv, ← Int.natCast_emod, ← Int.natCast_mul, ← Int.natCast_add, Nat.pow_add, Nat.mod_mul, Nat.mul_comm (2 ^ a)]
theorem meanN_rep (ks : List Nat) (p g : Nat) (X : Nat) (hg : 0 < g) : meanN ks p (List.replicate g (X : Int)) = (X : Int) / 2 ^ p % 2 ^ ks.sum * 2 ^ p := by
  induction ks generalizing p with
  | nil => simp [meanN, Int.emod_one]
  | cons k r ih =>
    rw [meanN, ih, chan_rep p k g _ hg, List.sum_cons]
    have e : (X : Int) / 2 ^ p = ((X / 2 ^ p : Nat) : Int) := by simp
    have e2 : (X : Int) / 2 ^ (p + k) = ((X / 2 ^ p : Nat) : Int) / 2 ^ k := by
      rw [Int.pow_add, ← Int.ediv_ediv_of_nonneg (Int.le_of_lt (Int.pow_pos (by omega))), e]
    rw [e, e2, mod_split, Int.add_mul, Int.mul_assoc, ← Int.pow_add, Nat.add_comm k p]
theorem low_num : ∀ (l : List Int), Byt l → low (numOf l) l.length = l
  | [], _ => rfl
  | c :: r, h => by
    have hc := h c (by simp)
    have ih := low_num r (fun x hx => h x (by simp [hx]))
    rw [List.length_cons, low, numOf]
    have e1 : (c + 256 * numOf r) % 256 = c := by omega
    have e2 : (c + 256 * numOf r) / 256 = numOf r := by omega
    rw [e1, e2, ih]
/-- Pixels of one colour. -/
def repB (p : List Int) (n : Nat) : List Int := (List.replicate n p).flatten
theorem repB_len (p : List Int) (n : Nat) : (repB p n).length = n * p.length := by
  unfold repB
  induction n with
  | zero => simp
  | succ n ih => rw [List.replicate_succ, List.flatten_cons, List.length_append, ih, Nat.succ_mul]; omega
theorem cell_rep (p : List Int) : ∀ (n q : Nat), q < n → cellL p.length (repB p n) q = p
  | n + 1, 0, _ => by
    unfold cellL repB
    rw [List.replicate_succ, List.flatten_cons, Nat.zero_mul, List.drop_zero, List.take_append_of_le_length (Nat.le_refl _), List.take_length]
  | n + 1, q + 1, h => by
    have ih := cell_rep p n q (by omega)
    unfold cellL repB at ih ⊢
    rw [List.replicate_succ, List.flatten_cons, show (q + 1) * p.length = p.length + q * p.length by rw [Nat.succ_mul]; omega, ← List.drop_drop, List.drop_left]
    exact ih
theorem mean_rep {ks : List Nat} {p : List Int} (hp : Byt p) (hks : ks.sum = 8 * p.length) (g : Nat) (hg : 0 < g) : meanB ks p.length (List.replicate g p) = p := by
  obtain ⟨h0, h1⟩ := numOf_bound p hp
  obtain ⟨X, hX⟩ := Int.eq_ofNat_of_zero_le h0
  unfold meanB
  rw [List.map_replicate, hX, meanN_rep ks 0 g X hg, hks]
  have e : (2 : Int) ^ (8 * p.length) = 256 ^ p.length := by rw [Int.pow_mul]; rfl
  rw [e, Int.pow_zero, Int.ediv_one, Int.mul_one, ← hX, Int.emod_eq_of_lt h0 h1]
  exact low_num p hp
/-- What follows a level of one colour is of that colour. -/
theorem grp_rep {p : List Int} {W H : Nat} (hW : W = 1 ∨ W % 2 = 0) (hH : H = 1 ∨ H % 2 = 0) (hW0 : 0 < W) (hH0 : 0 < H) (x y : Nat) (hx : x < hN W) (hy : y < hN H) : grp p.length W H (repB p (W * H)) x y = List.replicate (min 2 W * min 2 H) p := by
  unfold grp
  refine List.eq_replicate_iff.2 ⟨by simp, fun c hc => ?_⟩
  obtain ⟨k, hk, rfl⟩ := List.mem_map.1 hc
  have hk := List.mem_range.1 hk
  refine cell_rep p _ _ ?_
  unfold pq
  unfold hN at hx hy
  have hm : 0 < min 2 W := by omega
  have h1 : k % min 2 W < min 2 W := Nat.mod_lt _ hm
  have h2 : k / min 2 W < min 2 H := Nat.div_lt_of_lt_mul hk
  have h3 : 2 * x + k % min 2 W < W := by omega
  have h4 : 2 * y + k / min 2 W < H := by omega
  generalize 2 * x + k % min 2 W = a at *
  generalize 2 * y + k / min 2 W = b at *
  have h5 : (b + 1) * W ≤ H * W := Nat.mul_le_mul_right W h4
  rw [Nat.succ_mul, Nat.mul_comm H W] at h5
  omega
theorem repB_succ (p : List Int) (n : Nat) : repB p (n + 1) = repB p n ++ p := by
  unfold repB
  rw [List.replicate_succ', List.flatten_append]
  simp
theorem nb_rep {ks : List Nat} {p : List Int} (hp : Byt p) (hks : ks.sum = 8 * p.length) {W H : Nat} (hW : W = 1 ∨ W % 2 = 0) (hH : H = 1 ∨ H % 2 = 0) (hW0 : 0 < W) (hH0 : 0 < H) (n : Nat) (hn : n ≤ hN W * hN H) :
    nb ks p.length W H (repB p (W * H)) n = repB p n := by
  induction n with
  | zero => rfl
  | succ n ih =>
    have hw : 0 < hN W := by unfold hN; omega
    rw [nb, ih (by omega), grp_rep hW hH hW0 hH0 _ _ (Nat.mod_lt _ hw) (Nat.div_lt_of_lt_mul hn), mean_rep hp hks _ (Nat.mul_pos (by omega) (by omega)), repB_succ]
theorem pow_half {n : Int} (h : powB n = true) : powB (half n) = true ∧ 1 ≤ n ∧ (n = 1 ∨ n % 2 = 0) := by
  unfold powB at h ⊢
  simp only [decide_eq_true_eq] at h ⊢
  unfold half
  omega
theorem it_rep {ks : List Nat} {p : List Int} (hp : Byt p) (hks : ks.sum = 8 * p.length) {W H : Int} (hW : powB W = true) (hH : powB H = true) (i : Nat) :
    ∃ A B : Nat, itL ks p.length (W, H, repB p (W.toNat * H.toNat)) i = ((A : Int), (B : Int), repB p (A * B)) ∧ powB (A : Int) = true ∧ powB (B : Int) = true := by
  induction i with
  | zero =>
    obtain ⟨_, a, _⟩ := pow_half hW
    obtain ⟨_, b, _⟩ := pow_half hH
    refine ⟨W.toNat, H.toNat, ?_, by rw [Int.toNat_of_nonneg (by omega)]; exact hW, by rw [Int.toNat_of_nonneg (by omega)]; exact hH⟩
    rw [Int.toNat_of_nonneg (by omega), Int.toNat_of_nonneg (by omega)]
    rfl
  | succ i ih =>
    obtain ⟨A, B, e, hA, hB⟩ := ih
    obtain ⟨a1, a2, a3⟩ := pow_half hA
    obtain ⟨b1, b2, b3⟩ := pow_half hB
    refine ⟨hN A, hN B, ?_, by rw [hN_half]; exact a1, by rw [hN_half]; exact b1⟩
    rw [itL, e]
    unfold nxt
    simp only [Int.toNat_natCast]
    rw [nb_rep hp hks (by omega) (by omega) (by omega) (by omega) _ (Nat.le_refl _), ← hN_half, ← hN_half]
end Go.Proofs.Ytahnmlopekgimaa
