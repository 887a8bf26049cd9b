/-
  Pixels: the numbers of the seven formats, what stands in their bytes, and rows of vectors in memory. Plain facts, and number and colour at a format. What the dump lacks is left out.
-/
import Derived.Test.YtgblnipfeikomaaPF
namespace Go.Proofs.Ytgblnipfeikomaa
open Go.RowKit

theorem seven {f : Nat} (h1 : 1 ≤ f) (h7 : f ≤ 7) : f = 1 ∨ f = 2 ∨ f = 3 ∨ f = 4 ∨ f = 5 ∨ f = 6 ∨ f = 7 := by omega
theorem chs_ok {f : Nat} (h1 : 1 ≤ f) (h7 : f ≤ 7) : LOK (chs f) := by
  intro k hk
  rcases seven h1 h7 with rfl | rfl | rfl | rfl | rfl | rfl | rfl <;> rcases (by omega : k = 0 ∨ k = 1 ∨ k = 2 ∨ k = 3) with rfl | rfl | rfl | rfl <;> decide
theorem chs_up {f : Nat} (h1 : 1 ≤ f) (h7 : f ≤ 7) : LUp (chs f) := by
  intro k hk
  rcases seven h1 h7 with rfl | rfl | rfl | rfl | rfl | rfl | rfl <;> rcases (by omega : k = 0 ∨ k = 1 ∨ k = 2 ∨ k = 3) with rfl | rfl | rfl | rfl <;> decide

theorem or_hi (i : Nat) {x y : Int} (hx : 0 ≤ x) (hy : 0 ≤ y) (hy2 : y < 2 ^ i) (hd : x % 2 ^ i = 0) (hb : x + y < 4294967296) : bits .or .u32 x y = x + y := by
  obtain ⟨X, rfl⟩ := Int.eq_ofNat_of_zero_le hx
  obtain ⟨Y, rfl⟩ := Int.eq_ofNat_of_zero_le hy
  have e : (2 : Int) ^ i = ((2 ^ i : Nat) : Int) := by simp
  rw [e] at hy2 hd
  have hY : Y < 2 ^ i := by omega
  have hX : X % 2 ^ i = 0 := by exact_mod_cast hd
  rw [u32_or_nat X Y (by omega) (by omega)]
  obtain ⟨q, hq⟩ := Nat.dvd_of_mod_eq_zero hX
  rw [hq, ← Nat.two_pow_add_eq_or_of_lt hY]
  simp
theorem or_lo (i : Nat) {x y : Int} (hx : 0 ≤ x) (hy : 0 ≤ y) (hx2 : x < 2 ^ i) (hd : y % 2 ^ i = 0) (hb : x + y < 4294967296) : bits .or .u32 x y = x + y := by
  obtain ⟨X, rfl⟩ := Int.eq_ofNat_of_zero_le hx
  obtain ⟨Y, rfl⟩ := Int.eq_ofNat_of_zero_le hy
  have e : (2 : Int) ^ i = ((2 ^ i : Nat) : Int) := by simp
  rw [e] at hx2 hd
  have hX : X < 2 ^ i := by omega
  have hY : Y % 2 ^ i = 0 := by exact_mod_cast hd
  rw [u32_or_nat X Y (by omega) (by omega)]
  obtain ⟨q, hq⟩ := Nat.dvd_of_mod_eq_zero hY
  rw [hq, Nat.or_comm, ← Nat.two_pow_add_eq_or_of_lt hX]
  push_cast
  omega

/-- A colour's channels as one number. -/
def packN (f : Nat) (c : Nat → Int) : Int := packK (chs f) c 4

theorem b8 (x : Int) : 0 ≤ bitsI x 8 ∧ bitsI x 8 ≤ 255 := bits_bound x (by decide)
theorem b6 (x : Int) : 0 ≤ bitsI x 6 ∧ bitsI x 6 ≤ 63 := bits_bound x (by decide)
theorem b5 (x : Int) : 0 ≤ bitsI x 5 ∧ bitsI x 5 ≤ 31 := bits_bound x (by decide)
theorem b4 (x : Int) : 0 ≤ bitsI x 4 ∧ bitsI x 4 ≤ 15 := bits_bound x (by decide)
theorem b1 (x : Int) : 0 ≤ bitsI x 1 ∧ bitsI x 1 ≤ 1 := bits_bound x (by decide)

theorem pack_step (L : Nat → Nat) (c : Nat → Int) (k : Nat) (b s p : Nat) (h : (L (4 * k), L (4 * k + 1), L (4 * k + 2)) = (b, s, p)) (hb : 0 < b) :
    packK L c (k + 1) = bits .or .u32 (packK L c k) (bitsI (c p) b * 2 ^ s % 4294967296) := by
  obtain ⟨rfl, rfl, rfl⟩ : L (4 * k) = b ∧ L (4 * k + 1) = s ∧ L (4 * k + 2) = p := by simpa using h
  exact if_pos hb
theorem pack_skip (L : Nat → Nat) (c : Nat → Int) (k : Nat) (h : L (4 * k) = 0) : packK L c (k + 1) = packK L c k := if_neg (by omega)

theorem pack1 (c : Nat → Int) : packN 1 c = bitsI (c 0) 8 + 256 * bitsI (c 1) 8 + 65536 * bitsI (c 2) 8 + 16777216 * bitsI (c 3) 8 := by
  have e0 : packK (chs 1) c 0 = 0 := rfl
  have h0 := b8 (c 0)
  have e1 : packK (chs 1) c 1 = bitsI (c 0) 8 := by
    rw [pack_step _ c 0 8 0 0 rfl (by decide), e0, or_lo 0 (by omega) (by omega) (by omega) (by omega) (by omega)]
    omega
  have h1 := b8 (c 1)
  have e2 : packK (chs 1) c 2 = bitsI (c 0) 8 + 256 * bitsI (c 1) 8 := by
    rw [pack_step _ c 1 8 8 1 rfl (by decide), e1, or_lo 8 (by omega) (by omega) (by omega) (by omega) (by omega)]
    omega
  have h2 := b8 (c 2)
  have e3 : packK (chs 1) c 3 = bitsI (c 0) 8 + 256 * bitsI (c 1) 8 + 65536 * bitsI (c 2) 8 := by
    rw [pack_step _ c 2 8 16 2 rfl (by decide), e2, or_lo 16 (by omega) (by omega) (by omega) (by omega) (by omega)]
    omega
  have h3 := b8 (c 3)
  have e4 : packK (chs 1) c 4 = bitsI (c 0) 8 + 256 * bitsI (c 1) 8 + 65536 * bitsI (c 2) 8 + 16777216 * bitsI (c 3) 8 := by
    rw [pack_step _ c 3 8 24 3 rfl (by decide), e3, or_lo 24 (by omega) (by omega) (by omega) (by omega) (by omega)]
    omega
  exact e4
theorem pack2 (c : Nat → Int) : packN 2 c = 2048 * bitsI (c 0) 5 + 32 * bitsI (c 1) 6 + bitsI (c 2) 5 := by
  have e0 : packK (chs 2) c 0 = 0 := rfl
  have h0 := b5 (c 0)
  have e1 : packK (chs 2) c 1 = 2048 * bitsI (c 0) 5 := by
    rw [pack_step _ c 0 5 11 0 rfl (by decide), e0, or_lo 0 (by omega) (by omega) (by omega) (by omega) (by omega)]
    omega
  have h1 := b6 (c 1)
  have e2 : packK (chs 2) c 2 = 2048 * bitsI (c 0) 5 + 32 * bitsI (c 1) 6 := by
    rw [pack_step _ c 1 6 5 1 rfl (by decide), e1, or_hi 11 (by omega) (by omega) (by omega) (by omega) (by omega)]
    omega
  have h2 := b5 (c 2)
  have e3 : packK (chs 2) c 3 = 2048 * bitsI (c 0) 5 + 32 * bitsI (c 1) 6 + bitsI (c 2) 5 := by
    rw [pack_step _ c 2 5 0 2 rfl (by decide), e2, or_hi 5 (by omega) (by omega) (by omega) (by omega) (by omega)]
    omega
  have e4 : packK (chs 2) c 4 = 2048 * bitsI (c 0) 5 + 32 * bitsI (c 1) 6 + bitsI (c 2) 5 := by rw [pack_skip _ c 3 rfl, e3]
  exact e4
theorem pack3 (c : Nat → Int) : packN 3 c = 4096 * bitsI (c 0) 4 + 256 * bitsI (c 1) 4 + 16 * bitsI (c 2) 4 + bitsI (c 3) 4 := by
  have e0 : packK (chs 3) c 0 = 0 := rfl
  have h0 := b4 (c 0)
  have e1 : packK (chs 3) c 1 = 4096 * bitsI (c 0) 4 := by
    rw [pack_step _ c 0 4 12 0 rfl (by decide), e0, or_lo 0 (by omega) (by omega) (by omega) (by omega) (by omega)]
    omega
  have h1 := b4 (c 1)
  have e2 : packK (chs 3) c 2 = 4096 * bitsI (c 0) 4 + 256 * bitsI (c 1) 4 := by
    rw [pack_step _ c 1 4 8 1 rfl (by decide), e1, or_hi 12 (by omega) (by omega) (by omega) (by omega) (by omega)]
    omega
  have h2 := b4 (c 2)
  have e3 : packK (chs 3) c 3 = 4096 * bitsI (c 0) 4 + 256 * bitsI (c 1) 4 + 16 * bitsI (c 2) 4 := by
    rw [pack_step _ c 2 4 4 2 rfl (by decide), e2, or_hi 8 (by omega) (by omega) (by omega) (by omega) (by omega)]
    omega
  have h3 := b4 (c 3)
  have e4 : packK (chs 3) c 4 = 4096 * bitsI (c 0) 4 + 256 * bitsI (c 1) 4 + 16 * bitsI (c 2) 4 + bitsI (c 3) 4 := by
    rw [pack_step _ c 3 4 0 3 rfl (by decide), e3, or_hi 4 (by omega) (by omega) (by omega) (by omega) (by omega)]
    omega
  exact e4
theorem pack4 (c : Nat → Int) : packN 4 c = 2048 * bitsI (c 0) 5 + 64 * bitsI (c 1) 5 + 2 * bitsI (c 2) 5 + bitsI (c 3) 1 := by
  have e0 : packK (chs 4) c 0 = 0 := rfl
  have h0 := b5 (c 0)
  have e1 : packK (chs 4) c 1 = 2048 * bitsI (c 0) 5 := by
    rw [pack_step _ c 0 5 11 0 rfl (by decide), e0, or_lo 0 (by omega) (by omega) (by omega) (by omega) (by omega)]
    omega
  have h1 := b5 (c 1)
  have e2 : packK (chs 4) c 2 = 2048 * bitsI (c 0) 5 + 64 * bitsI (c 1) 5 := by
    rw [pack_step _ c 1 5 6 1 rfl (by decide), e1, or_hi 11 (by omega) (by omega) (by omega) (by omega) (by omega)]
    omega
  have h2 := b5 (c 2)
  have e3 : packK (chs 4) c 3 = 2048 * bitsI (c 0) 5 + 64 * bitsI (c 1) 5 + 2 * bitsI (c 2) 5 := by
    rw [pack_step _ c 2 5 1 2 rfl (by decide), e2, or_hi 6 (by omega) (by omega) (by omega) (by omega) (by omega)]
    omega
  have h3 := b1 (c 3)
  have e4 : packK (chs 4) c 4 = 2048 * bitsI (c 0) 5 + 64 * bitsI (c 1) 5 + 2 * bitsI (c 2) 5 + bitsI (c 3) 1 := by
    rw [pack_step _ c 3 1 0 3 rfl (by decide), e3, or_hi 1 (by omega) (by omega) (by omega) (by omega) (by omega)]
    omega
  exact e4
theorem pack5 (c : Nat → Int) : packN 5 c = bitsI (c 0) 8 := by
  have e0 : packK (chs 5) c 0 = 0 := rfl
  have h0 := b8 (c 0)
  have e1 : packK (chs 5) c 1 = bitsI (c 0) 8 := by
    rw [pack_step _ c 0 8 0 0 rfl (by decide), e0, or_lo 0 (by omega) (by omega) (by omega) (by omega) (by omega)]
    omega
  have e2 : packK (chs 5) c 2 = bitsI (c 0) 8 := by rw [pack_skip _ c 1 rfl, e1]
  have e3 : packK (chs 5) c 3 = bitsI (c 0) 8 := by rw [pack_skip _ c 2 rfl, e2]
  have e4 : packK (chs 5) c 4 = bitsI (c 0) 8 := by rw [pack_skip _ c 3 rfl, e3]
  exact e4
theorem pack6 (c : Nat → Int) : packN 6 c = bitsI (c 3) 8 := by
  have e0 : packK (chs 6) c 0 = 0 := rfl
  have h0 := b8 (c 3)
  have e1 : packK (chs 6) c 1 = bitsI (c 3) 8 := by
    rw [pack_step _ c 0 8 0 3 rfl (by decide), e0, or_lo 0 (by omega) (by omega) (by omega) (by omega) (by omega)]
    omega
  have e2 : packK (chs 6) c 2 = bitsI (c 3) 8 := by rw [pack_skip _ c 1 rfl, e1]
  have e3 : packK (chs 6) c 3 = bitsI (c 3) 8 := by rw [pack_skip _ c 2 rfl, e2]
  have e4 : packK (chs 6) c 4 = bitsI (c 3) 8 := by rw [pack_skip _ c 3 rfl, e3]
  exact e4
theorem pack7 (c : Nat → Int) : packN 7 c = bitsI (c 0) 8 + 256 * bitsI (c 3) 8 := by
  have e0 : packK (chs 7) c 0 = 0 := rfl
  have h0 := b8 (c 0)
  have e1 : packK (chs 7) c 1 = bitsI (c 0) 8 := by
    rw [pack_step _ c 0 8 0 0 rfl (by decide), e0, or_lo 0 (by omega) (by omega) (by omega) (by omega) (by omega)]
    omega
  have h1 := b8 (c 3)
  have e2 : packK (chs 7) c 2 = bitsI (c 0) 8 + 256 * bitsI (c 3) 8 := by
    rw [pack_step _ c 1 8 8 3 rfl (by decide), e1, or_lo 8 (by omega) (by omega) (by omega) (by omega) (by omega)]
    omega
  have e3 : packK (chs 7) c 3 = bitsI (c 0) 8 + 256 * bitsI (c 3) 8 := by rw [pack_skip _ c 2 rfl, e2]
  have e4 : packK (chs 7) c 4 = bitsI (c 0) 8 + 256 * bitsI (c 3) 8 := by rw [pack_skip _ c 3 rfl, e3]
  exact e4

theorem pack_bound (f : Nat) (c : Nat → Int) (h1 : 1 ≤ f) (h7 : f ≤ 7) : 0 ≤ packN f c ∧ packN f c < 4294967296 := by
  have a0 := b8 (c 0)
  have a1 := b8 (c 1)
  have a2 := b8 (c 2)
  have a3 := b8 (c 3)
  have d0 := b5 (c 0)
  have d1 := b5 (c 1)
  have d2 := b5 (c 2)
  have d3 := b1 (c 3)
  have e1 := b6 (c 1)
  have g0 := b4 (c 0)
  have g1 := b4 (c 1)
  have g2 := b4 (c 2)
  have g3 := b4 (c 3)
  rcases seven h1 h7 with rfl | rfl | rfl | rfl | rfl | rfl | rfl
  · rw [pack1]; omega
  · rw [pack2]; omega
  · rw [pack3]; omega
  · rw [pack4]; omega
  · rw [pack5]; omega
  · rw [pack6]; omega
  · rw [pack7]; omega

/-- The colour of the bytes whose number is x. -/
def colN (f : Nat) (x : Int) : Nat → Int := colK (opq f) (chs f) x 4

theorem colour_any (f : Nat) (ao : Option Addr) (cap : Nat) (xs : List Int) (w : World) (h1 : 1 ≤ f) (h7 : f ≤ 7) (hr : Row .u8 w (.slice ao xs.length cap) xs) (hB : Byt xs) (hl : xs.length = siz f) :
    Calls Try.prog 58 #[.agg (layF f), .slice ao xs.length cap] w fun e w' => e = .returned (.agg #[.int .i32 (colN f (numOf xs) 0), .int .i32 (colN f (numOf xs) 1), .int .i32 (colN f (numOf xs) 2), .int .i32 (colN f (numOf xs) 3)]) ∧ Ext w w' :=
  colour_lay f (siz f) (opq f) (chs f) ao cap xs w (chs_ok h1 h7) (chs_up h1 h7) hr hB (by rw [hl]; exact siz_three h1 h7)
end Go.Proofs.Ytgblnipfeikomaa
