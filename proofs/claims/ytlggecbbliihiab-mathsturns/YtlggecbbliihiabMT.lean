/-
  Plain facts on sines: with the cosine they lie on the circle, nearly. Nothing here speaks of the program.
-/
import Derived.Test.YtlggecbbliihiabMC
namespace Go.Proofs.Ytlggecbbliihiab
set_option linter.unusedVariables false

/-- A sum of powers of r and R, each of the same degree. -/
def evI (r R : Int) : List Int → Int
  | [] => 0
  | x :: l => x * R ^ l.length + r * evI r R l
theorem evI_nonneg {r R : Int} (hr : 0 ≤ r) (hR : 0 ≤ R) : ∀ l : List Int, (∀ x ∈ l, 0 ≤ x) → 0 ≤ evI r R l
  | [], _ => Int.le_refl _
  | x :: l, h => by
    have h1 := evI_nonneg hr hR l (fun y hy => h y (List.mem_cons_of_mem _ hy))
    have h2 : 0 ≤ R ^ l.length := Int.pow_nonneg hR
    have h3 := h x List.mem_cons_self
    exact Int.add_nonneg (Int.mul_nonneg h3 h2) (Int.mul_nonneg hr h1)

/-- The sum of odd powers itself, times the ninth power of Q. -/
def polyI (r Q : Int) : Int := r * (1686629713 * Q ^ 8 - (693598668 * Q ^ 6 - (85569306 * Q ^ 4 - (5026995 * Q ^ 2 - 172272 * (r * r)) * (r * r)) * (r * r)) * (r * r))

def upL : List Int := [3360172778660, 150080740198712, 1601025416952503, 9169143867479148, 35088729829103407, 98702916769212784, 214013990481036384, 366905021912508608, 504495583229678990, 560551111035585352, 504495583229678990, 366905021912508608, 214013990481036384, 98702916769212784, 35088729829103407, 9169143867479148, 1601025416952503, 150080740198712, 3360172778660]
def loL : List Int := [8170116009232, 57464457983344, 163108767594973, 239571783440724, 193953861846113, 88597565445872, 34290577390704, 34888473366400, 46793550899146, 51529831723688, 46793550899146, 34888473366400, 34290577390704, 88597565445872, 193953861846113, 239571783440724, 163108767594973, 57464457983344, 8170116009232]

theorem circle_up (r R : Int) : polyI r (r + R) * polyI r (r + R) + polyI R (r + R) * polyI R (r + R) + evI r R upL = 1152933033821893044 * (r + R) ^ 18 := by
  simp only [polyI, evI, upL, List.length_cons, List.length_nil, Nat.zero_add, Nat.reduceAdd]
  grind
theorem circle_lo (r R : Int) : polyI r (r + R) * polyI r (r + R) + polyI R (r + R) * polyI R (r + R) = evI r R loL + 1152921503533105152 * (r + R) ^ 18 := by
  simp only [polyI, evI, loL, List.length_cons, List.length_nil, Nat.zero_add, Nat.reduceAdd]
  grind
theorem up_nonneg : ∀ x ∈ upL, 0 ≤ x := by decide
theorem lo_nonneg : ∀ x ∈ loL, 0 ≤ x := by decide

/-- One step of the sum: how far the rounded one is off. -/
theorem err_step {y s r f c V W E : Int} (hW : 0 ≤ W) (hE : 0 ≤ E) (hy : 0 ≤ y) (hy2 : y ≤ 2147483648) (hr : 0 ≤ r) (hr2 : r ≤ 1073741824)
    (hs1 : s * 1073741824 ≤ r * r) (hs2 : r * r ≤ s * 1073741824 + 1073741824) (hf1 : f * 1073741824 ≤ y * s) (hf2 : y * s ≤ f * 1073741824 + 1073741824)
    (he1 : -(E * W) ≤ y * W - V) (he2 : y * W - V ≤ E * W) :
    -((E + 3) * (W * 1152921504606846976)) ≤ (c - f) * (W * 1152921504606846976) - (c * (W * 1152921504606846976) - V * (r * r)) ∧ (c - f) * (W * 1152921504606846976) - (c * (W * 1152921504606846976) - V * (r * r)) ≤ (E + 3) * (W * 1152921504606846976) := by
  have hrr : 0 ≤ r * r := Int.mul_nonneg hr hr
  have hrr2 : r * r ≤ 1152921504606846976 := by
    have : r * r ≤ 1073741824 * 1073741824 := Int.mul_le_mul hr2 hr2 hr (by omega)
    omega
  -- y r r against f
  have a1 : y * (s * 1073741824) ≤ y * (r * r) := Int.mul_le_mul_of_nonneg_left hs1 hy
  have a2 : y * (r * r) ≤ y * (s * 1073741824 + 1073741824) := Int.mul_le_mul_of_nonneg_left hs2 hy
  have a3 : y * (s * 1073741824) = y * s * 1073741824 := by rw [Int.mul_assoc]
  have a4 : y * (s * 1073741824 + 1073741824) = y * s * 1073741824 + y * 1073741824 := by rw [Int.mul_add, Int.mul_assoc]
  have b1 : 0 ≤ y * (r * r) - f * 1152921504606846976 := by omega
  have b2 : y * (r * r) - f * 1152921504606846976 ≤ 3 * 1152921504606846976 := by omega
  -- the error's part
  have c1 : -(E * W) * (r * r) ≤ (y * W - V) * (r * r) := Int.mul_le_mul_of_nonneg_right he1 hrr
  have c2 : (y * W - V) * (r * r) ≤ E * W * (r * r) := Int.mul_le_mul_of_nonneg_right he2 hrr
  have c3 : E * W * (r * r) ≤ E * W * 1152921504606846976 := Int.mul_le_mul_of_nonneg_left hrr2 (Int.mul_nonneg hE hW)
  have d1 : 0 ≤ W * (y * (r * r) - f * 1152921504606846976) := Int.mul_nonneg hW b1
  have d2 : W * (y * (r * r) - f * 1152921504606846976) ≤ W * (3 * 1152921504606846976) := Int.mul_le_mul_of_nonneg_left b2 hW
  have key : (c - f) * (W * 1152921504606846976) - (c * (W * 1152921504606846976) - V * (r * r)) = W * (y * (r * r) - f * 1152921504606846976) - (y * W - V) * (r * r) := by grind
  rw [key]
  have e1 : -(E * W) * (r * r) = -(E * W * (r * r)) := by rw [Int.neg_mul]
  have e2 : (E + 3) * (W * 1152921504606846976) = E * W * 1152921504606846976 + W * (3 * 1152921504606846976) := by grind
  omega

theorem quo_two {a d : Int} (hd : 0 < d) : a / d * d ≤ a ∧ a ≤ a / d * d + d := by
  have h1 := Int.mul_ediv_add_emod a d
  have h2 := Int.emod_nonneg a (by omega : d ≠ 0)
  have h3 := Int.emod_lt_of_pos a hd
  rw [Int.mul_comm] at h1
  omega

/-- The exact sums. -/
def exI (r : Int) : Nat → Int
  | 0 => 172272
  | k + 1 => cI k * (1152921504606846976 ^ k * 1152921504606846976) - exI r k * (r * r)

theorem exI_near {r : Int} (hr : 0 ≤ r) (hr2 : r ≤ 1073741824) : ∀ k : Nat, k ≤ 4 →
    -(3 * (k : Int) * 1152921504606846976 ^ k) ≤ yI (r * r / 1073741824) k * 1152921504606846976 ^ k - exI r k ∧ yI (r * r / 1073741824) k * 1152921504606846976 ^ k - exI r k ≤ 3 * (k : Int) * 1152921504606846976 ^ k
  | 0, _ => by simp [yI, exI]
  | k + 1, hk => by
    obtain ⟨i1, i2⟩ := exI_near hr hr2 k (by omega)
    have hb := rr_bounds hr hr2
    have hs := quo_two (a := r * r) (d := 1073741824) (by omega)
    have hs0 : 0 ≤ r * r / 1073741824 := by omega
    have hs1 : r * r / 1073741824 ≤ 1073741824 := by omega
    have hy := yI_bounds hs0 hs1 k (by omega)
    have ht := ct_top k (by omega)
    have hf := quo_two (a := yI (r * r / 1073741824) k * (r * r / 1073741824)) (d := 1073741824) (by omega)
    have h := err_step (y := yI (r * r / 1073741824) k) (s := r * r / 1073741824) (r := r) (f := yI (r * r / 1073741824) k * (r * r / 1073741824) / 1073741824) (c := cI k) (V := exI r k) (W := 1152921504606846976 ^ k) (E := 3 * (k : Int))
      (Int.pow_nonneg (by decide)) (by omega) hy.1 (by omega) hr hr2 hs.1 hs.2 hf.1 hf.2 i1 i2
    rw [show yI (r * r / 1073741824) (k + 1) = cI k - yI (r * r / 1073741824) k * (r * r / 1073741824) / 1073741824 from rfl, show exI r (k + 1) = cI k * (1152921504606846976 ^ k * 1152921504606846976) - exI r k * (r * r) from rfl, Int.pow_succ, show 3 * ((k + 1 : Nat) : Int) = 3 * (k : Int) + 3 by omega]
    exact h

theorem exI_poly (r : Int) : exI r 4 * r = polyI r 1073741824 := by
  simp only [exI, polyI, cI, List.getD_cons_zero, List.getD_cons_succ]
  grind

/-- The raw of the sine ahead of the cut at One. -/
def z0I (r : Int) : Int := (yI (r * r / 1073741824) 4 * r / 1073741824 + 8192) / 16384
theorem fsI_z0 (r : Int) : fsI r = min (z0I r) 65536 := rfl

theorem z0_near {r : Int} (hr : 0 ≤ r) (hr2 : r ≤ 1073741824) :
    -(8205 * 1073741824 ^ 9) ≤ 16384 * z0I r * 1073741824 ^ 9 - polyI r 1073741824 ∧ 16384 * z0I r * 1073741824 ^ 9 - polyI r 1073741824 ≤ 8205 * 1073741824 ^ 9 ∧ 0 ≤ z0I r ∧
    0 ≤ polyI r 1073741824 ∧ polyI r 1073741824 ≤ 2147483648 * 1073741824 ^ 9 := by
  obtain ⟨e1, e2⟩ := exI_near hr hr2 4 (by omega)
  have hb := rr_bounds hr hr2
  have hs0 : 0 ≤ r * r / 1073741824 := by omega
  have hs1 : r * r / 1073741824 ≤ 1073741824 := by omega
  have hy := yI_bounds hs0 hs1 4 (by omega)
  have hy3 := yI_bounds hs0 hs1 3 (by omega)
  have hlow : 993031045 ≤ yI (r * r / 1073741824) 4 := by
    have h1 : yI (r * r / 1073741824) 3 * (r * r / 1073741824) ≤ yI (r * r / 1073741824) 3 * 1073741824 := Int.mul_le_mul_of_nonneg_left hs1 hy3.1
    rw [show yI (r * r / 1073741824) 4 = 1686629713 - yI (r * r / 1073741824) 3 * (r * r / 1073741824) / 1073741824 from rfl]
    rw [show ctI 3 = 693598668 from rfl] at hy3
    omega
  rw [show ctI 4 = 1686629713 from rfl] at hy
  rw [← exI_poly]
  unfold z0I
  generalize yI (r * r / 1073741824) 4 = y at *
  generalize exI r 4 = V at *
  rw [show (3 * ((4 : Nat) : Int) * 1152921504606846976 ^ 4) = 12 * 1152921504606846976 ^ 4 from rfl] at e1 e2
  generalize hW : (1152921504606846976 : Int) ^ 4 = W at *
  have hW0 : 0 < W := by rw [← hW]; decide
  have hT : (1073741824 : Int) ^ 9 = W * 1073741824 := by rw [← hW]; decide
  rw [hT]
  have hq := quo_two (a := y * r) (d := 1073741824) (by omega)
  generalize y * r / 1073741824 = z at *
  have hz := quo_two (a := z + 8192) (d := 16384) (by omega)
  have hyr : 0 ≤ y * r := Int.mul_nonneg hy.1 hr
  have hz0 : 0 ≤ (z + 8192) / 16384 := by omega
  generalize (z + 8192) / 16384 = u at *
  -- V against y W
  have m1 : (y * W - V) * r ≤ 12 * W * r := Int.mul_le_mul_of_nonneg_right e2 hr
  have m2 : -(12 * W) * r ≤ (y * W - V) * r := Int.mul_le_mul_of_nonneg_right e1 hr
  have m3 : W * r ≤ W * 1073741824 := Int.mul_le_mul_of_nonneg_left hr2 (by omega)
  have m4 : (y * W - V) * r = W * (y * r) - V * r := by grind
  have m5 : W * (z * 1073741824) ≤ W * (y * r) := Int.mul_le_mul_of_nonneg_left hq.1 (by omega)
  have m6 : W * (y * r) ≤ W * (z * 1073741824 + 1073741824) := Int.mul_le_mul_of_nonneg_left hq.2 (by omega)
  have m7 : W * (u * 16384) ≤ W * (z + 8192) := Int.mul_le_mul_of_nonneg_left hz.1 (by omega)
  have m8 : W * (z + 8192) ≤ W * (u * 16384 + 16384) := Int.mul_le_mul_of_nonneg_left hz.2 (by omega)
  have n1 : 12 * W * r = 12 * (W * r) := by rw [Int.mul_assoc]
  have n2 : -(12 * W) * r = -(12 * (W * r)) := by rw [Int.neg_mul, Int.mul_assoc]
  have n3 : W * (z * 1073741824) = 1073741824 * (W * z) := by grind
  have n4 : W * (z * 1073741824 + 1073741824) = 1073741824 * (W * z) + 1073741824 * W := by grind
  have n5 : W * (u * 16384) = 16384 * (W * u) := by grind
  have n6 : W * (z + 8192) = W * z + 8192 * W := by grind
  have n7 : W * (u * 16384 + 16384) = 16384 * (W * u) + 16384 * W := by grind
  have n8 : 16384 * u * (W * 1073741824) = 17592186044416 * (W * u) := by grind
  rw [n8]
  -- V itself
  have hV0 : 0 ≤ V := by
    have : 993031045 * W ≤ y * W := Int.mul_le_mul_of_nonneg_right hlow (by omega)
    omega
  have hV1 : V ≤ 2147483648 * W := by
    have : y * W ≤ 1686629713 * W := Int.mul_le_mul_of_nonneg_right hy.2 (by omega)
    omega
  have v1 : 0 ≤ V * r := Int.mul_nonneg hV0 hr
  have v2 : V * r ≤ 2147483648 * W * r := Int.mul_le_mul_of_nonneg_right hV1 hr
  have v3 : 2147483648 * W * r = 2147483648 * (W * r) := by rw [Int.mul_assoc]
  refine ⟨by omega, by omega, hz0, v1, by omega⟩

theorem sq_mono {a b : Int} (h0 : 0 ≤ a) (h : a ≤ b) : a * a ≤ b * b := Int.mul_le_mul h h h0 (by omega)

theorem near_up {a A T : Int} (hT : 0 ≤ T) (ha : 0 ≤ a) (hA : 0 ≤ A) (hA2 : A ≤ 2147483648 * T) (h : 16384 * a * T - A ≤ 8205 * T) :
    268435456 * (a * a) * (T * T) ≤ A * A + 35240273985705 * (T * T) := by
  have h1 : 16384 * a * T ≤ A + 8205 * T := by omega
  have h2 : 16384 * a * T * (16384 * a * T) ≤ (A + 8205 * T) * (A + 8205 * T) := sq_mono (Int.mul_nonneg (by omega) hT) h1
  have h3 : 16384 * a * T * (16384 * a * T) = 268435456 * (a * a) * (T * T) := by grind
  have h4 : (A + 8205 * T) * (A + 8205 * T) = A * A + 16410 * (A * T) + 67322025 * (T * T) := by grind
  have h5 : A * T ≤ 2147483648 * T * T := Int.mul_le_mul_of_nonneg_right hA2 hT
  have h6 : 2147483648 * T * T = 2147483648 * (T * T) := by rw [Int.mul_assoc]
  have h7 : 0 ≤ T * T := Int.mul_nonneg hT hT
  omega
theorem near_lo {a A T : Int} (hT : 0 ≤ T) (ha : 0 ≤ a) (hA : 0 ≤ A) (hA2 : A ≤ 2147483648 * T) (h : -(8205 * T) ≤ 16384 * a * T - A) :
    A * A - 35240206663680 * (T * T) ≤ 268435456 * (a * a) * (T * T) := by
  have h3 : 16384 * a * T * (16384 * a * T) = 268435456 * (a * a) * (T * T) := by grind
  have h5 : A * T ≤ 2147483648 * T * T := Int.mul_le_mul_of_nonneg_right hA2 hT
  have h6 : 2147483648 * T * T = 2147483648 * (T * T) := by rw [Int.mul_assoc]
  have h7 : 0 ≤ T * T := Int.mul_nonneg hT hT
  by_cases c : A ≤ 8205 * T
  · have h8 : A * A ≤ 8205 * T * A := Int.mul_le_mul_of_nonneg_right c hA
    have h9 : 8205 * T * A = 8205 * (A * T) := by grind
    have h10 : 0 ≤ 16384 * a * T * (16384 * a * T) := Int.mul_nonneg (Int.mul_nonneg (by omega) hT) (Int.mul_nonneg (by omega) hT)
    omega
  · have h2 : (A - 8205 * T) * (A - 8205 * T) ≤ 16384 * a * T * (16384 * a * T) := sq_mono (by omega) (by omega)
    have h4 : (A - 8205 * T) * (A - 8205 * T) = A * A - 16410 * (A * T) + 67322025 * (T * T) := by grind
    omega
theorem cancel_le {x y t : Int} (ht : 0 < t) (h : x * t ≤ y * t) : x ≤ y := Int.le_of_mul_le_mul_right h ht

theorem z0_circle {r R : Int} (hr : 0 ≤ r) (hR : 0 ≤ R) (h : r + R = 1073741824) :
    z0I r * z0I r + z0I R * z0I R ≤ 4295491584 ∧ 4294443008 ≤ z0I r * z0I r + z0I R * z0I R := by
  obtain ⟨a1, a2, a3, a4, a5⟩ := z0_near hr (by omega)
  obtain ⟨b1, b2, b3, b4, b5⟩ := z0_near hR (by omega)
  have hu := circle_up r R
  have hl := circle_lo r R
  rw [h] at hu hl
  have u0 := evI_nonneg hr hR upL up_nonneg
  have l0 := evI_nonneg hr hR loL lo_nonneg
  have hTT : (1073741824 : Int) ^ 18 = 1073741824 ^ 9 * 1073741824 ^ 9 := by decide
  have hT : (0 : Int) < 1073741824 ^ 9 := by decide
  rw [hTT] at hu hl
  generalize (1073741824 : Int) ^ 9 = T at *
  generalize polyI r 1073741824 = A at *
  generalize polyI R 1073741824 = B at *
  generalize z0I r = a at *
  generalize z0I R = b at *
  have p1 := near_up (by omega) a3 a4 a5 a2
  have p2 := near_up (by omega) b3 b4 b5 b2
  have q1 := near_lo (by omega) a3 a4 a5 a1
  have q2 := near_lo (by omega) b3 b4 b5 b1
  generalize evI r R upL = eu at *
  generalize evI r R loL = el at *
  have hS : 0 < T * T := Int.mul_pos hT hT
  generalize T * T = S at *
  have e1 : 268435456 * (a * a) * S + 268435456 * (b * b) * S = 268435456 * (a * a + b * b) * S := by grind
  constructor
  · have h1 : 268435456 * (a * a + b * b) * S ≤ (1152933033821893044 + 2 * 35240273985705) * S := by
      rw [Int.add_mul]
      omega
    have h2 := cancel_le hS h1
    omega
  · have h1 : (1152921503533105152 - 2 * 35240206663680) * S ≤ 268435456 * (a * a + b * b) * S := by
      rw [Int.sub_mul]
      omega
    have h2 := cancel_le hS h1
    omega

theorem fs_circle {r R : Int} (hr : 0 ≤ r) (hR : 0 ≤ R) (h : r + R = 1073741824) :
    fsI r * fsI r + fsI R * fsI R ≤ 4295491584 ∧ 4294443008 ≤ fsI r * fsI r + fsI R * fsI R := by
  obtain ⟨c1, c2⟩ := z0_circle hr hR h
  have a3 := (z0_near hr (by omega)).2.2.1
  have b3 := (z0_near hR (by omega)).2.2.1
  rw [fsI_z0, fsI_z0]
  generalize z0I r = a at *
  generalize z0I R = b at *
  have m1 : min a 65536 * min a 65536 ≤ a * a := sq_mono (by omega) (by omega)
  have m2 : min b 65536 * min b 65536 ≤ b * b := sq_mono (by omega) (by omega)
  refine ⟨by omega, ?_⟩
  have n1 : 0 ≤ min a 65536 * min a 65536 := Int.mul_nonneg (by omega) (by omega)
  have n2 : 0 ≤ min b 65536 * min b 65536 := Int.mul_nonneg (by omega) (by omega)
  by_cases k1 : 65536 ≤ a
  · have e : min a 65536 = 65536 := by omega
    rw [e] at n1 ⊢
    omega
  · by_cases k2 : 65536 ≤ b
    · have e : min b 65536 = 65536 := by omega
      rw [e] at n2 ⊢
      omega
    · rw [show min a 65536 = a by omega, show min b 65536 = b by omega]
      omega

/-- How far two steps of the sum are apart. -/
theorem lip_mul {y y2 s s2 D : Int} (hD : 0 ≤ D) (h1 : y - y2 ≤ D) (h2 : y2 - y ≤ D) (hs0 : 0 ≤ s) (hs1 : s ≤ 1073741824) (hd1 : s - s2 ≤ 3) (hd2 : s2 - s ≤ 3) (hy0 : 0 ≤ y2) (hy1 : y2 ≤ 2147483648) :
    y * s / 1073741824 - y2 * s2 / 1073741824 ≤ D + 7 ∧ y2 * s2 / 1073741824 - y * s / 1073741824 ≤ D + 7 := by
  have e : y * s - y2 * s2 = (y - y2) * s + y2 * (s - s2) := by grind
  have a1 : (y - y2) * s ≤ D * s := Int.mul_le_mul_of_nonneg_right h1 hs0
  have a2 : D * s ≤ D * 1073741824 := Int.mul_le_mul_of_nonneg_left hs1 hD
  have a3 : -D * s ≤ (y - y2) * s := Int.mul_le_mul_of_nonneg_right (by omega) hs0
  have a4 : -D * s = -(D * s) := by rw [Int.neg_mul]
  have b1 : y2 * (s - s2) ≤ y2 * 3 := Int.mul_le_mul_of_nonneg_left hd1 hy0
  have b2 : y2 * -3 ≤ y2 * (s - s2) := Int.mul_le_mul_of_nonneg_left (by omega) hy0
  generalize y * s = p at *
  generalize y2 * s2 = q at *
  omega
theorem yI_lip {s s2 : Int} (hs0 : 0 ≤ s) (hs1 : s ≤ 1073741824) (ht0 : 0 ≤ s2) (ht1 : s2 ≤ 1073741824) (hd1 : s - s2 ≤ 3) (hd2 : s2 - s ≤ 3) : ∀ k : Nat, k ≤ 4 → yI s k - yI s2 k ≤ 7 * (k : Int) ∧ yI s2 k - yI s k ≤ 7 * (k : Int)
  | 0, _ => by simp [yI]
  | k + 1, hk => by
    obtain ⟨i1, i2⟩ := yI_lip hs0 hs1 ht0 ht1 hd1 hd2 k (by omega)
    have hy := yI_bounds ht0 ht1 k (by omega)
    have hc := ct_top k (by omega)
    have h := lip_mul (y := yI s k) (y2 := yI s2 k) (s := s) (s2 := s2) (D := 7 * (k : Int)) (by omega) i1 i2 hs0 hs1 hd1 hd2 hy.1 (by omega)
    rw [show yI s (k + 1) = cI k - yI s k * s / 1073741824 from rfl, show yI s2 (k + 1) = cI k - yI s2 k * s2 / 1073741824 from rfl]
    omega
theorem fs_lip {r : Int} (hr : 0 ≤ r) (hr2 : r + 1 ≤ 1073741824) : fsI r - fsI (r + 1) ≤ 1 ∧ fsI (r + 1) - fsI r ≤ 1 := by
  have hb := rr_bounds hr (by omega)
  have hb2 := rr_bounds (r := r + 1) (by omega) hr2
  have e : (r + 1) * (r + 1) = r * r + r + r + 1 := by grind
  have hd : 0 ≤ (r + 1) * (r + 1) / 1073741824 - r * r / 1073741824 ∧ (r + 1) * (r + 1) / 1073741824 - r * r / 1073741824 ≤ 3 := by
    rw [e] at hb2 ⊢
    generalize r * r = q at *
    omega
  have hl := yI_lip (s := r * r / 1073741824) (s2 := (r + 1) * (r + 1) / 1073741824) (by omega) (by omega) (by omega) (by omega) (by omega) (by omega) 4 (by omega)
  have hy := yI_bounds (s := (r + 1) * (r + 1) / 1073741824) (by omega) (by omega) 4 (by omega)
  have hc := ct_top 4 (by omega)
  unfold fsI
  generalize yI (r * r / 1073741824) 4 = y at *
  generalize yI ((r + 1) * (r + 1) / 1073741824) 4 = y2 at *
  have h := lip_mul (y := y) (y2 := y2) (s := r) (s2 := r + 1) (D := 28) (by omega) (by omega) (by omega) hr (by omega) (by omega) (by omega) hy.1 (by omega)
  generalize y * r / 1073741824 = p at *
  generalize y2 * (r + 1) / 1073741824 = q at *
  omega
theorem fs_zero : fsI 0 = 0 := by decide

/-- A phase and the one that lies back of it by as much. -/
theorem sine_back {p : Int} (h0 : 0 ≤ p) (h1 : p < 4294967296) : sineI p + sineI (-p % 4294967296) = 0 := by
  unfold sineI
  by_cases hz : p % 2147483648 = 0
  · have e1 : foldI p = 0 := by unfold foldI; rw [if_neg (by omega)]; omega
    have e2 : foldI (-p % 4294967296) = 0 := by unfold foldI; rw [if_neg (by omega)]; omega
    rw [e1, e2, fs_zero]
    split <;> split <;> rfl
  · have e : foldI (-p % 4294967296) = foldI p := by
      unfold foldI
      split <;> split <;> omega
    rw [e]
    split <;> split <;> omega
theorem sine_near {p : Int} (h0 : 0 ≤ p) (h1 : p < 4294967296) : sineI p + sineI (4294967295 - p) ≤ 1 ∧ -1 ≤ sineI p + sineI (4294967295 - p) := by
  have e : foldI (4294967295 - p) = foldI p + 1 ∨ foldI p = foldI (4294967295 - p) + 1 := by
    unfold foldI
    split <;> split <;> omega
  have b1 := foldI_bounds p
  have b2 := foldI_bounds (4294967295 - p)
  have hq : 2 ≤ p / 1073741824 ↔ ¬ 2 ≤ (4294967295 - p) / 1073741824 := by omega
  unfold sineI
  rcases e with e | e
  · rw [e] at b2 ⊢
    have hl := fs_lip (r := foldI p) (by omega) (by omega)
    split <;> split <;> omega
  · rw [e] at b1 ⊢
    have hl := fs_lip (r := foldI (4294967295 - p)) (by omega) (by omega)
    split <;> split <;> omega
theorem sin_turns (x : Int) : sinI x + sinI (-x) ≤ 2 ∧ -2 ≤ sinI x + sinI (-x) := by
  have hp := phaseI_bounds x
  have e : phaseI (-x) = -phaseI x % 4294967296 ∨ phaseI (-x) = 4294967295 - phaseI x := by
    have h1 : -x * 683565276 / 65536 = -(x * 683565276 / 65536) ∨ -x * 683565276 / 65536 = -(x * 683565276 / 65536) - 1 := by omega
    unfold phaseI
    generalize x * 683565276 / 65536 = m at *
    rcases h1 with h1 | h1
    · rw [h1]
      left
      omega
    · rw [h1]
      right
      omega
  unfold sinI
  rcases e with e | e
  · rw [e]
    have := sine_back hp.1 hp.2
    omega
  · rw [e]
    have := sine_near hp.1 hp.2
    omega
theorem fold_turn {p : Int} (h0 : 0 ≤ p) (h1 : p < 4294967296) : foldI p + foldI ((p + 1073741824) % 4294967296) = 1073741824 := by
  unfold foldI
  split <;> split <;> omega
theorem sine_sq (p : Int) : sineI p * sineI p = fsI (foldI p) * fsI (foldI p) := by
  unfold sineI
  split
  · rw [Int.neg_mul_neg]
  · rfl
theorem sin_circle (x : Int) : sinI x * sinI x + cosI x * cosI x ≤ 4295491584 ∧ 4294443008 ≤ sinI x * sinI x + cosI x * cosI x := by
  have hp := phaseI_bounds x
  unfold sinI cosI
  rw [sine_sq, sine_sq]
  exact fs_circle (foldI_bounds _).1 (foldI_bounds _).1 (fold_turn hp.1 hp.2)

end Go.Proofs.Ytlggecbbliihiab
