/- Several texts in one. -/
import Derived.Test.YtglfhmlcmffoaaaGreatPF
import Derived.Test.YtglfhmlcmffoaaaGreatW1J
import Derived.Test.YtglfhmlcmffoaaaGreatVMDJ
import Derived.Test.YtglfhmlcmffoaaaGreatLemJ
import Derived.Deep.RegionHeld3
import Derived.Test.YtglfhmlcmffoaaaGreatCB
import Derived.Deep.QuietTactic
/-
  Pixels: the numbers of the seven formats, what stands in their bytes, and rows of vectors in memory. Plain facts, and number and colour at a format. What the dump lacks is left out.
-/
namespace Go.Proofs.YtglfhmlcmffoaaaGreat
open Go.RowKit

theorem seven {f : Nat} (h1 : 1 ≤ f) (h7 : f ≤ 7) : f = 1 ∨ f = 2 ∨ f = 3 ∨ f = 4 ∨ f = 5 ∨ f = 6 ∨ f = 7 := by omega
theorem chs_ok {f : Nat} (h1 : 1 ≤ f) (h7 : f ≤ 7) : LOK (chs f) := by
  intro k hk
  rcases seven h1 h7 with rfl | rfl | rfl | rfl | rfl | rfl | rfl <;> rcases (by omega : k = 0 ∨ k = 1 ∨ k = 2 ∨ k = 3) with rfl | rfl | rfl | rfl <;> decide
theorem chs_up {f : Nat} (h1 : 1 ≤ f) (h7 : f ≤ 7) : LUp (chs f) := by
  intro k hk
  rcases seven h1 h7 with rfl | rfl | rfl | rfl | rfl | rfl | rfl <;> rcases (by omega : k = 0 ∨ k = 1 ∨ k = 2 ∨ k = 3) with rfl | rfl | rfl | rfl <;> decide

theorem or_hi (i : Nat) {x y : Int} (hx : 0 ≤ x) (hy : 0 ≤ y) (hy2 : y < 2 ^ i) (hd : x % 2 ^ i = 0) (hb : x + y < 4294967296) : bits .or .u32 x y = x + y := by
  obtain ⟨X, rfl⟩ := Int.eq_ofNat_of_zero_le hx
  obtain ⟨Y, rfl⟩ := Int.eq_ofNat_of_zero_le hy
  have e : (2 : Int) ^ i = ((2 ^ i : Nat) : Int) := by simp
  rw [e] at hy2 hd
  have hY : Y < 2 ^ i := by omega
  have hX : X % 2 ^ i = 0 := by exact_mod_cast hd
  rw [u32_or_nat X Y (by omega) (by omega)]
  obtain ⟨q, hq⟩ := Nat.dvd_of_mod_eq_zero hX
  rw [hq, ← Nat.two_pow_add_eq_or_of_lt hY]
  simp
theorem or_lo (i : Nat) {x y : Int} (hx : 0 ≤ x) (hy : 0 ≤ y) (hx2 : x < 2 ^ i) (hd : y % 2 ^ i = 0) (hb : x + y < 4294967296) : bits .or .u32 x y = x + y := by
  obtain ⟨X, rfl⟩ := Int.eq_ofNat_of_zero_le hx
  obtain ⟨Y, rfl⟩ := Int.eq_ofNat_of_zero_le hy
  have e : (2 : Int) ^ i = ((2 ^ i : Nat) : Int) := by simp
  rw [e] at hx2 hd
  have hX : X < 2 ^ i := by omega
  have hY : Y % 2 ^ i = 0 := by exact_mod_cast hd
  rw [u32_or_nat X Y (by omega) (by omega)]
  obtain ⟨q, hq⟩ := Nat.dvd_of_mod_eq_zero hY
  rw [hq, Nat.or_comm, ← Nat.two_pow_add_eq_or_of_lt hX]
  push_cast
  omega

/-- A colour's channels as one number. -/
def packN (f : Nat) (c : Nat → Int) : Int := packK (chs f) c 4

theorem b8 (x : Int) : 0 ≤ bitsI x 8 ∧ bitsI x 8 ≤ 255 := bits_bound x (by decide)
theorem b6 (x : Int) : 0 ≤ bitsI x 6 ∧ bitsI x 6 ≤ 63 := bits_bound x (by decide)
theorem b5 (x : Int) : 0 ≤ bitsI x 5 ∧ bitsI x 5 ≤ 31 := bits_bound x (by decide)
theorem b4 (x : Int) : 0 ≤ bitsI x 4 ∧ bitsI x 4 ≤ 15 := bits_bound x (by decide)
theorem b1 (x : Int) : 0 ≤ bitsI x 1 ∧ bitsI x 1 ≤ 1 := bits_bound x (by decide)

theorem pack_step (L : Nat → Nat) (c : Nat → Int) (k : Nat) (b s p : Nat) (h : (L (4 * k), L (4 * k + 1), L (4 * k + 2)) = (b, s, p)) (hb : 0 < b) :
    packK L c (k + 1) = bits .or .u32 (packK L c k) (bitsI (c p) b * 2 ^ s % 4294967296) := by
  obtain ⟨rfl, rfl, rfl⟩ : L (4 * k) = b ∧ L (4 * k + 1) = s ∧ L (4 * k + 2) = p := by simpa using h
  exact if_pos hb
theorem pack_skip (L : Nat → Nat) (c : Nat → Int) (k : Nat) (h : L (4 * k) = 0) : packK L c (k + 1) = packK L c k := if_neg (by omega)

theorem pack1 (c : Nat → Int) : packN 1 c = bitsI (c 0) 8 + 256 * bitsI (c 1) 8 + 65536 * bitsI (c 2) 8 + 16777216 * bitsI (c 3) 8 := by
  have e0 : packK (chs 1) c 0 = 0 := rfl
  have h0 := b8 (c 0)
  have e1 : packK (chs 1) c 1 = bitsI (c 0) 8 := by
    rw [pack_step _ c 0 8 0 0 rfl (by decide), e0, or_lo 0 (by omega) (by omega) (by omega) (by omega) (by omega)]
    omega
  have h1 := b8 (c 1)
  have e2 : packK (chs 1) c 2 = bitsI (c 0) 8 + 256 * bitsI (c 1) 8 := by
    rw [pack_step _ c 1 8 8 1 rfl (by decide), e1, or_lo 8 (by omega) (by omega) (by omega) (by omega) (by omega)]
    omega
  have h2 := b8 (c 2)
  have e3 : packK (chs 1) c 3 = bitsI (c 0) 8 + 256 * bitsI (c 1) 8 + 65536 * bitsI (c 2) 8 := by
    rw [pack_step _ c 2 8 16 2 rfl (by decide), e2, or_lo 16 (by omega) (by omega) (by omega) (by omega) (by omega)]
    omega
  have h3 := b8 (c 3)
  have e4 : packK (chs 1) c 4 = bitsI (c 0) 8 + 256 * bitsI (c 1) 8 + 65536 * bitsI (c 2) 8 + 16777216 * bitsI (c 3) 8 := by
    rw [pack_step _ c 3 8 24 3 rfl (by decide), e3, or_lo 24 (by omega) (by omega) (by omega) (by omega) (by omega)]
    omega
  exact e4
theorem pack2 (c : Nat → Int) : packN 2 c = 2048 * bitsI (c 0) 5 + 32 * bitsI (c 1) 6 + bitsI (c 2) 5 := by
  have e0 : packK (chs 2) c 0 = 0 := rfl
  have h0 := b5 (c 0)
  have e1 : packK (chs 2) c 1 = 2048 * bitsI (c 0) 5 := by
    rw [pack_step _ c 0 5 11 0 rfl (by decide), e0, or_lo 0 (by omega) (by omega) (by omega) (by omega) (by omega)]
    omega
  have h1 := b6 (c 1)
  have e2 : packK (chs 2) c 2 = 2048 * bitsI (c 0) 5 + 32 * bitsI (c 1) 6 := by
    rw [pack_step _ c 1 6 5 1 rfl (by decide), e1, or_hi 11 (by omega) (by omega) (by omega) (by omega) (by omega)]
    omega
  have h2 := b5 (c 2)
  have e3 : packK (chs 2) c 3 = 2048 * bitsI (c 0) 5 + 32 * bitsI (c 1) 6 + bitsI (c 2) 5 := by
    rw [pack_step _ c 2 5 0 2 rfl (by decide), e2, or_hi 5 (by omega) (by omega) (by omega) (by omega) (by omega)]
    omega
  have e4 : packK (chs 2) c 4 = 2048 * bitsI (c 0) 5 + 32 * bitsI (c 1) 6 + bitsI (c 2) 5 := by rw [pack_skip _ c 3 rfl, e3]
  exact e4
theorem pack3 (c : Nat → Int) : packN 3 c = 4096 * bitsI (c 0) 4 + 256 * bitsI (c 1) 4 + 16 * bitsI (c 2) 4 + bitsI (c 3) 4 := by
  have e0 : packK (chs 3) c 0 = 0 := rfl
  have h0 := b4 (c 0)
  have e1 : packK (chs 3) c 1 = 4096 * bitsI (c 0) 4 := by
    rw [pack_step _ c 0 4 12 0 rfl (by decide), e0, or_lo 0 (by omega) (by omega) (by omega) (by omega) (by omega)]
    omega
  have h1 := b4 (c 1)
  have e2 : packK (chs 3) c 2 = 4096 * bitsI (c 0) 4 + 256 * bitsI (c 1) 4 := by
    rw [pack_step _ c 1 4 8 1 rfl (by decide), e1, or_hi 12 (by omega) (by omega) (by omega) (by omega) (by omega)]
    omega
  have h2 := b4 (c 2)
  have e3 : packK (chs 3) c 3 = 4096 * bitsI (c 0) 4 + 256 * bitsI (c 1) 4 + 16 * bitsI (c 2) 4 := by
    rw [pack_step _ c 2 4 4 2 rfl (by decide), e2, or_hi 8 (by omega) (by omega) (by omega) (by omega) (by omega)]
    omega
  have h3 := b4 (c 3)
  have e4 : packK (chs 3) c 4 = 4096 * bitsI (c 0) 4 + 256 * bitsI (c 1) 4 + 16 * bitsI (c 2) 4 + bitsI (c 3) 4 := by
    rw [pack_step _ c 3 4 0 3 rfl (by decide), e3, or_hi 4 (by omega) (by omega) (by omega) (by omega) (by omega)]
    omega
  exact e4
theorem pack4 (c : Nat → Int) : packN 4 c = 2048 * bitsI (c 0) 5 + 64 * bitsI (c 1) 5 + 2 * bitsI (c 2) 5 + bitsI (c 3) 1 := by
  have e0 : packK (chs 4) c 0 = 0 := rfl
  have h0 := b5 (c 0)
  have e1 : packK (chs 4) c 1 = 2048 * bitsI (c 0) 5 := by
    rw [pack_step _ c 0 5 11 0 rfl (by decide), e0, or_lo 0 (by omega) (by omega) (by omega) (by omega) (by omega)]
    omega
  have h1 := b5 (c 1)
  have e2 : packK (chs 4) c 2 = 2048 * bitsI (c 0) 5 + 64 * bitsI (c 1) 5 := by
    rw [pack_step _ c 1 5 6 1 rfl (by decide), e1, or_hi 11 (by omega) (by omega) (by omega) (by omega) (by omega)]
    omega
  have h2 := b5 (c 2)
  have e3 : packK (chs 4) c 3 = 2048 * bitsI (c 0) 5 + 64 * bitsI (c 1) 5 + 2 * bitsI (c 2) 5 := by
    rw [pack_step _ c 2 5 1 2 rfl (by decide), e2, or_hi 6 (by omega) (by omega) (by omega) (by omega) (by omega)]
    omega
  have h3 := b1 (c 3)
  have e4 : packK (chs 4) c 4 = 2048 * bitsI (c 0) 5 + 64 * bitsI (c 1) 5 + 2 * bitsI (c 2) 5 + bitsI (c 3) 1 := by
    rw [pack_step _ c 3 1 0 3 rfl (by decide), e3, or_hi 1 (by omega) (by omega) (by omega) (by omega) (by omega)]
    omega
  exact e4
theorem pack5 (c : Nat → Int) : packN 5 c = bitsI (c 0) 8 := by
  have e0 : packK (chs 5) c 0 = 0 := rfl
  have h0 := b8 (c 0)
  have e1 : packK (chs 5) c 1 = bitsI (c 0) 8 := by
    rw [pack_step _ c 0 8 0 0 rfl (by decide), e0, or_lo 0 (by omega) (by omega) (by omega) (by omega) (by omega)]
    omega
  have e2 : packK (chs 5) c 2 = bitsI (c 0) 8 := by rw [pack_skip _ c 1 rfl, e1]
  have e3 : packK (chs 5) c 3 = bitsI (c 0) 8 := by rw [pack_skip _ c 2 rfl, e2]
  have e4 : packK (chs 5) c 4 = bitsI (c 0) 8 := by rw [pack_skip _ c 3 rfl, e3]
  exact e4
theorem pack6 (c : Nat → Int) : packN 6 c = bitsI (c 3) 8 := by
  have e0 : packK (chs 6) c 0 = 0 := rfl
  have h0 := b8 (c 3)
  have e1 : packK (chs 6) c 1 = bitsI (c 3) 8 := by
    rw [pack_step _ c 0 8 0 3 rfl (by decide), e0, or_lo 0 (by omega) (by omega) (by omega) (by omega) (by omega)]
    omega
  have e2 : packK (chs 6) c 2 = bitsI (c 3) 8 := by rw [pack_skip _ c 1 rfl, e1]
  have e3 : packK (chs 6) c 3 = bitsI (c 3) 8 := by rw [pack_skip _ c 2 rfl, e2]
  have e4 : packK (chs 6) c 4 = bitsI (c 3) 8 := by rw [pack_skip _ c 3 rfl, e3]
  exact e4
theorem pack7 (c : Nat → Int) : packN 7 c = bitsI (c 0) 8 + 256 * bitsI (c 3) 8 := by
  have e0 : packK (chs 7) c 0 = 0 := rfl
  have h0 := b8 (c 0)
  have e1 : packK (chs 7) c 1 = bitsI (c 0) 8 := by
    rw [pack_step _ c 0 8 0 0 rfl (by decide), e0, or_lo 0 (by omega) (by omega) (by omega) (by omega) (by omega)]
    omega
  have h1 := b8 (c 3)
  have e2 : packK (chs 7) c 2 = bitsI (c 0) 8 + 256 * bitsI (c 3) 8 := by
    rw [pack_step _ c 1 8 8 3 rfl (by decide), e1, or_lo 8 (by omega) (by omega) (by omega) (by omega) (by omega)]
    omega
  have e3 : packK (chs 7) c 3 = bitsI (c 0) 8 + 256 * bitsI (c 3) 8 := by rw [pack_skip _ c 2 rfl, e2]
  have e4 : packK (chs 7) c 4 = bitsI (c 0) 8 + 256 * bitsI (c 3) 8 := by rw [pack_skip _ c 3 rfl, e3]
  exact e4

theorem pack_bound (f : Nat) (c : Nat → Int) (h1 : 1 ≤ f) (h7 : f ≤ 7) : 0 ≤ packN f c ∧ packN f c < 4294967296 := by
  have a0 := b8 (c 0)
  have a1 := b8 (c 1)
  have a2 := b8 (c 2)
  have a3 := b8 (c 3)
  have d0 := b5 (c 0)
  have d1 := b5 (c 1)
  have d2 := b5 (c 2)
  have d3 := b1 (c 3)
  have e1 := b6 (c 1)
  have g0 := b4 (c 0)
  have g1 := b4 (c 1)
  have g2 := b4 (c 2)
  have g3 := b4 (c 3)
  rcases seven h1 h7 with rfl | rfl | rfl | rfl | rfl | rfl | rfl
  · rw [pack1]; omega
  · rw [pack2]; omega
  · rw [pack3]; omega
  · rw [pack4]; omega
  · rw [pack5]; omega
  · rw [pack6]; omega
  · rw [pack7]; omega

/-- The colour of the bytes whose number is x. -/
def colN (f : Nat) (x : Int) : Nat → Int := colK (opq f) (chs f) x 4

theorem colour_any (f : Nat) (ao : Option Addr) (cap : Nat) (xs : List Int) (w : World) (h1 : 1 ≤ f) (h7 : f ≤ 7) (hr : Row .u8 w (.slice ao xs.length cap) xs) (hB : Byt xs) (hl : xs.length = siz f) :
    Calls Tryz.prog 215 #[.agg (layF f), .slice ao xs.length cap] w fun e w' => e = .returned (.agg #[.int .i32 (colN f (numOf xs) 0), .int .i32 (colN f (numOf xs) 1), .int .i32 (colN f (numOf xs) 2), .int .i32 (colN f (numOf xs) 3)]) ∧ Ext w w' :=
  colour_lay f (siz f) (opq f) (chs f) ao cap xs w (chs_ok h1 h7) (chs_up h1 h7) hr hB (by rw [hl]; exact siz_three h1 h7)
end Go.Proofs.YtglfhmlcmffoaaaGreat

/-
  The walks of octet's put, Put16, Put32. What the dump lacks is left out.
-/
namespace Go.Proofs.YtglfhmlcmffoaaaGreat
open Go.RowKit

end Go.Proofs.YtglfhmlcmffoaaaGreat

/-
  Pixels: rows of vectors in memory, and the walks of Lay and Pack. What the dump lacks is left out.
-/
namespace Go.Proofs.YtglfhmlcmffoaaaGreat
open Go.RowKit

/-- The slice value v holds the vectors cs. -/
def VRow (w : World) (v : Value) (cs : List (Nat → Int)) : Prop :=
  (cs = [] ∧ ∃ ao cap, v = .slice ao 0 cap) ∨
  (cs ≠ [] ∧ ∃ b off cap, v = .slice (some ⟨b, off, none⟩) cs.length cap ∧ ∀ i j, i < cs.length → j < 4 → w.cell? ⟨b, off + i * 4 + j, none⟩ = some (.int .i32 (cs.getD i nul j)))
theorem VRow.ext {w w' : World} {v : Value} {cs : List (Nat → Int)} (h : VRow w v cs) (hx : Ext w w') : VRow w' v cs := by
  rcases h with h | ⟨hne, b, off, cap, rfl, hc⟩
  · exact .inl h
  · refine .inr ⟨hne, b, off, cap, rfl, fun i j hi hj => ?_⟩
    rw [hx.cell (p := ⟨b, off + i * 4 + j, none⟩) (World.block_lt_of_cell? w _ (hc i j hi hj))]
    exact hc i j hi hj
theorem VRow.shape {w : World} {v : Value} {cs : List (Nat → Int)} (h : VRow w v cs) : ∃ ao cap, v = .slice ao cs.length cap := by
  rcases h with ⟨rfl, ao, cap, rfl⟩ | ⟨_, b, off, cap, rfl, _⟩
  · exact ⟨ao, cap, rfl⟩
  · exact ⟨_, cap, rfl⟩
theorem VRow.at {w : World} {ao : Option Addr} {n cap : Nat} {cs : List (Nat → Int)} (h : VRow w (.slice ao n cap) cs) (i : Nat) (hi : i < cs.length) :
    ∃ b off, ao = some ⟨b, off, none⟩ ∧ ∀ i j, i < cs.length → j < 4 → w.cell? ⟨b, off + i * 4 + j, none⟩ = some (.int .i32 (cs.getD i nul j)) := by
  rcases h with ⟨rfl, _⟩ | ⟨_, b, off, c, hv, hc⟩
  · simp at hi
  · cases hv
    exact ⟨b, off, rfl, hc⟩

/-- The bytes of a colour. -/
def pk (f : Nat) (c : Nat → Int) : List Int := low (packN f c) (siz f)
/-- The bytes of all colours. -/
def layL (f : Nat) (cs : List (Nat → Int)) : List Int := cs.flatMap (pk f)
theorem pk_length (f : Nat) (c : Nat → Int) : (pk f c).length = siz f := low_length _ _
theorem layL_length (f : Nat) (cs : List (Nat → Int)) : (layL f cs).length = cs.length * siz f := by
  induction cs with
  | nil => simp [layL]
  | cons c cs ih =>
    unfold layL at *
    rw [List.flatMap_cons, List.length_append, ih, pk_length, List.length_cons, Nat.succ_mul]
    omega
theorem layL_next (f : Nat) (cs : List (Nat → Int)) (k : Nat) (hk : k < cs.length) : layL f (cs.take (k + 1)) = layL f (cs.take k) ++ pk f (cs.getD k nul) := by
  rw [List.take_succ_eq_append_getElem hk]
  unfold layL
  rw [List.flatMap_append]
  simp [hk]

/-- The block g holds the bytes xs, no more. -/
def Bys (w : World) (g : Nat) (xs : List Int) : Prop := w.heap[g]? = some (.cells (xs.map (Value.int .u8)).toArray 5 (0, 0))
theorem Own.bys {w : World} {base g n : Nat} {xs : List Int} (h : Own .u8 w base 5 (.slice (some ⟨g, 0, none⟩) n n) xs) : Bys w g xs := by
  obtain ⟨hl, h2⟩ := h
  rcases h2 with ⟨h2, _⟩ | ⟨g2, cap, cur, hv, hb, hg, hn, hm, hs, ht⟩
  · cases h2
  · cases hv
    have e : cur.toList = xs.map (Value.int .u8) := by
      rw [← ht]
      rw [List.take_of_length_le]
      simp
      omega
    unfold Bys
    rw [hg, ← e]
theorem Bys.row {w : World} {g : Nat} {xs : List Int} (h : Bys w g xs) (hm : xs.length ≤ maxLen) : Row .u8 w (.slice (some ⟨g, 0, none⟩) xs.length xs.length) xs := by
  by_cases h0 : xs = []
  · subst h0
    exact .inl ⟨rfl, _, _, rfl, (fun h => by cases h), Nat.zero_le _⟩
  · refine .inr ⟨h0, g, 0, xs.length, rfl, Nat.le_refl _, hm, fun i hi => ?_⟩
    have := Blk.cell (w := w) (b := g) h (i := 0 + i) (v := .int .u8 (xs.getD i 0)) (by simp [hi])
    exact this

theorem splice_mid (A ys : List Int) (m : Nat) : splice ((A ++ List.replicate m 0).map (Value.int .u8)) A.length (ys.map (Value.int .u8)) = (A ++ ys ++ List.replicate (m - ys.length) 0).map (Value.int .u8) := by
  unfold splice
  rw [List.map_append, List.take_left' (by simp), List.length_map, List.drop_append]
  simp

theorem Bys.ext {w w' : World} {g : Nat} {xs : List Int} (h : Bys w g xs) (hx : Ext w w') : Bys w' g xs := Blk.ext h hx
theorem bys_ext {w w' : World} {g : Nat} {xs : List Int} (hx : Ext w w') (h : Bys w g xs) : Bys w' g xs := Blk.ext h hx
theorem size5 : (Tryz.prog.info? 5).map (·.size) = some 1 := by kernel_rfl

theorem low_take (x : Int) (f : Nat) (h1 : 1 ≤ f) (h7 : f ≤ 7) (j : Nat) (hj : j < siz f) : (low x 4).getD j 0 = (low x (siz f)).getD j 0 := by
  rcases siz_three h1 h7 with h | h | h <;> rw [h] at hj ⊢
  · obtain rfl : j = 0 := by omega
    rfl
  · rcases (by omega : j = 0 ∨ j = 1) with rfl | rfl <;> rfl

/-- 'copy' into a block that is known whole, as one step of a region that draws. -/
theorem step_copy_own {P : Program} {ops : Array Oper} {o : Oper} {a : Act} {w : World} {K : Act → World → Prop} {Q : Exit → Act → World → Prop} {E : Prop} (hgd : o.guard = none) (d s : Operand) (dT sT : TypeId)
    (ho : o.op = .call { callee := .builtin .copy, args := #[d, s], argTypes := #[dT, sT] }) (elem : TypeId) (hu : P.underlying dT = some (.slice elem)) (hsz : (P.info? elem).map (·.size) = some 1)
    (g off dLen dCap : Nat) (ad : Addr) (sLen sCap : Nat) (hd : a.eval d = .slice (some ⟨g, off, none⟩) dLen dCap) (hs : a.eval s = .slice (some ad) sLen sCap)
    (cur : Array Value) (t : TypeId) (hg : w.heap[g]? = some (.cells cur t (0, 0))) (cs : List Value) (hn : cs.length = Nat.min sLen dLen)
    (hsrc : ∀ j v, cs[j]? = some v → w.cell? (ad.add j) = some v) (hfit : off + cs.length ≤ cur.size) (h1 : ∀ v ∈ cs, v.oneCell' = true)
    (h : K (a.put o.dst (goInt cs.length)) (w.setRow g (cur.toList.take off ++ (cs ++ cur.toList.drop (off + cs.length))).toArray)) :
    if Region.wanted o (yielded ops a.tmps) = true then Oper.wp P o a w K Q else E := by
  have hw : Region.wanted o (yielded ops a.tmps) = true := by simp [Region.wanted, hgd]
  rw [if_pos hw]
  have hrun := run_copy_row (P := P) w dT sT o.type elem g off dLen dCap ad sLen sCap cur t cs hu hsz hg hn hsrc hfit h1
  unfold Oper.wp
  simp [execOp, ho, resolve, invoke, builtin, hd, hs, hrun, Result.andThen]
  exact h

/-- The same for a pixel's bytes: S bytes of the four go to place k. -/
theorem step_copy_px {P : Program} {ops : Array Oper} {o : Oper} {a : Act} {w : World} {K : Act → World → Prop} {Q : Exit → Act → World → Prop} {E : Prop} (hgd : o.guard = none) (d s : Operand) (dT sT : TypeId)
    (ho : o.op = .call { callee := .builtin .copy, args := #[d, s], argTypes := #[dT, sT] }) (hu : P.underlying dT = some (.slice 5)) (hsz : (P.info? 5).map (·.size) = some 1)
    (f g k b off cap : Nat) (x : Int) (h1 : 1 ≤ f) (h7 : f ≤ 7) (hd : a.eval d = .slice (some ⟨g, k * siz f, none⟩) (siz f) (siz f)) (hs : a.eval s = .slice (some ⟨b, off, none⟩) 4 cap)
    (hc : ∀ j, j < 4 → w.cell? ⟨b, off + j, none⟩ = some (.int .u8 ((low x 4).getD j 0)))
    (A : List Int) (m : Nat) (hA : A.length = k * siz f) (hm : siz f ≤ m) (hg : Bys w g (A ++ List.replicate m 0))
    (h : ∀ w', Bys w' g (A ++ low x (siz f) ++ List.replicate (m - siz f) 0) → (∀ B w0, Below B w0 w → B ≤ g → Below B w0 w') → (∀ r cs t, r ≠ g → Blk w r cs t → Blk w' r cs t) → K (a.put o.dst (goInt (siz f : Nat))) w') :
    if Region.wanted o (yielded ops a.tmps) = true then Oper.wp P o a w K Q else E := by
  have hl := low_length x (siz f)
  have hS := siz_three h1 h7
  refine step_copy_own hgd d s dT sT ho 5 hu hsz g (k * siz f) (siz f) (siz f) ⟨b, off, none⟩ 4 cap hd hs _ 5 hg ((low x (siz f)).map (Value.int .u8)) ?_ ?_ ?_ ?_ ?_
  · simp only [List.length_map, hl]
    rcases hS with h | h | h <;> rw [h] <;> rfl
  · intro j v hv
    have hj : j < siz f := by
      have := (List.getElem?_eq_some_iff.1 hv).1
      simpa [hl] using this
    rw [Addr.add_mid, hc j (by omega), low_take x f h1 h7 j hj, ← hv]
    simp [hl, hj]
  · simp [hl, hA]
    omega
  · intro v hv
    obtain ⟨n, _, rfl⟩ := List.mem_map.1 hv
    rfl
  · have e := splice_mid A (low x (siz f)) m
    unfold splice at e
    rw [hA, hl] at e
    simp only [List.length_map, hl] at e ⊢
    rw [e]
    exact h _ (Blk.row hg) (fun B w0 hb hB => below_setRow hb hB _) (fun r cs t hr hB => hB.rowOther hr)

/-- What Lay's round reads. -/
def HeldL (f b6 b10 : Nat) (c : Nat → Int) (w : World) : Prop := Blk w b6 (layF f) 180 ∧ Blk w b10 #[.int .i32 (c 0), .int .i32 (c 1), .int .i32 (c 2), .int .i32 (c 3)] 28

theorem HeldL.ext {f b6 b10 : Nat} {c : Nat → Int} {w w' : World} (h : HeldL f b6 b10 c w) (hx : Ext w w') : HeldL f b6 b10 c w' := ⟨h.1.ext hx, h.2.ext hx⟩

end Go.Proofs.YtglfhmlcmffoaaaGreat

/-
  Codes: the walk of Reads. What the dump lacks is left out.
-/
namespace Go.Proofs.YtglfhmlcmffoaaaGreat
open Go.RowKit
set_option linter.unusedVariables false
set_option linter.unusedSimpArgs false

theorem Own.block {k : IntKind} {e : TypeId} {base : Nat} (w : World) (xs : List Int) (hb : base ≤ w.heap.size) (hm : xs.length ≤ maxLen) : Own k (w.alloc (.cells (xs.map (Value.int k)).toArray e)) base e (.slice (some ⟨w.heap.size, 0, none⟩) xs.length xs.length) xs :=
  ⟨by simp, .inr ⟨w.heap.size, xs.length, _, rfl, hb, heap_alloc_new w _, Nat.le_refl _, hm, by simp, by rw [Nat.mul_one, List.toList_toArray, List.take_of_length_le (by simp)]⟩⟩

theorem Blk.here {w : World} {b : Nat} {cs : Array Value} {t : TypeId} (h : w.heap.size = b) : Blk (w.alloc (.cells cs t)) b cs t := h ▸ Blk.new w cs t
theorem infoInt : (Tryz.prog.info? 3).map (fun i => (i.zero, i.size, i.bytes)) = some (some (.int .i64 0), 1, 8) := by kernel_rfl

set_option maxHeartbeats 400000 in
theorem cloneI_any (v : Value) (xs : List Int) (w : World) (hr : Row .i64 w v xs) (hm : xs.length ≤ 1000000) :
    Calls Tryz.prog 174 #[v] w fun e w' => ∃ ao cap, e = .returned (.slice ao xs.length cap) ∧ Own .i64 w' w.heap.size 3 (.slice ao xs.length cap) xs ∧ Below w.heap.size w w' := by
  obtain ⟨i0, hi, hz0, hz1, hz2⟩ := info_parts infoInt
  obtain ⟨ao, cap, rfl, h0, hl, hcm⟩ := hr.shape
  have hnil := fun wx => Lib.run_eql_slice_nil (P := Tryz.prog) wx 40 3 ao xs.length cap 0 0 Tryz.underlying40
  cases ao with
  | none =>
    obtain ⟨rfl, rfl⟩ := h0 rfl
    simp only [List.length_nil] at hnil ⊢
    go_enter Tryz.func174, Tryz.ntmps174
    go_wp2
    go_ret
    exact ⟨none, 0, rfl, Own.nil _ _ _ _, Below.refl _ _⟩
  | some ad =>
    have HR := hide hr
    clear h0 hr
    go_enter Tryz.func174, Tryz.ntmps174
    go_wp2_with (at_builtin; refine wpList_append_Own rfl (.tmp 5) (.tmp 6) 40 rfl w.heap.size 3 i0 .i64 8 Tryz.underlying40 hi hz0 hz1 hz2 _ [] rfl (Own.made w (Nat.le_refl _)) _ xs rfl ((unhide HR).below ((Below.refl _ _).alloc (Nat.le_refl _) _)) ?c1 ?c2 ?c3 ?_)
    case c1 => unfold maxLen; simp; omega
    case c2 => simp; omega
    case c3 => simp
    intro v' w' hown hgrow
    obtain ⟨ao', cap', rfl⟩ := hown.shape
    go_wp2
    go_ret
    refine ⟨_, _, rfl, hown, ?_⟩
    exact ((Below.refl _ _).alloc (Nat.le_refl _) _).grown hgrow (by simp) (by simp [Value.ownBlock])

/-- What a call leaves that answers a new row of numbers. -/
def NewI (w w' : World) (e : Ending) (xs : List Int) : Prop := ∃ ao cap, e = .returned (.slice ao xs.length cap) ∧ Own .i64 w' w.heap.size 3 (.slice ao xs.length cap) xs ∧ Ext w w'
theorem Own.low {k : IntKind} {w : World} {base b2 : Nat} {e : TypeId} {v : Value} {xs : List Int} (h : Own k w base e v xs) (hb : b2 ≤ base) : Own k w b2 e v xs := by
  refine ⟨h.1, ?_⟩
  rcases h.2 with hn | ⟨g, cap, cur, e, h1, r⟩
  · exact .inl hn
  · exact .inr ⟨g, cap, cur, e, by omega, r⟩

theorem NewI.of (w : World) (o : Obj) (xs : List Int) (hm : xs.length ≤ 100) : NewI w ((w.alloc o).alloc (.cells (xs.map (Value.int .i64)).toArray 3)) (.returned (.slice (some ⟨w.heap.size + 1, 0, none⟩) xs.length xs.length)) xs := by
  have h := Own.block (k := .i64) (e := 3) (base := w.heap.size) (w.alloc o) xs (by simp) (by unfold maxLen; omega)
  have e : (w.alloc o).heap.size = w.heap.size + 1 := by simp
  rw [e] at h
  exact ⟨_, _, rfl, h, ((Ext.refl w).alloc _).alloc _⟩

theorem Row.pre3 {w : World} {g : Nat} {a b c : Int} {t : TypeId} (h : w.heap[g]? = some (.cells #[.int .i64 a, .int .i64 b, .int .i64 c] t (0, 0))) (n : Nat) (hn : n ≤ 3) : Row .i64 w (.slice (some ⟨g, 0, none⟩) n 3) ([a, b, c].take n) := by
  have hc : ∀ i u, #[Value.int .i64 a, .int .i64 b, .int .i64 c][i]? = some u → w.cell? ⟨g, i, none⟩ = some u := fun i u hu => Blk.cell h hu
  rcases (by omega : n = 0 ∨ n = 1 ∨ n = 2 ∨ n = 3) with rfl | rfl | rfl | rfl
  · exact .inl ⟨rfl, _, 3, rfl, (fun h => by cases h), by unfold maxLen; omega⟩
  · refine .inr ⟨by simp, g, 0, 3, rfl, by simp, by unfold maxLen; omega, fun i hi => ?_⟩
    obtain rfl : i = 0 := by simp at hi; omega
    exact hc 0 _ rfl
  · refine .inr ⟨by simp, g, 0, 3, rfl, by simp, by unfold maxLen; omega, fun i hi => ?_⟩
    rcases (by simp at hi; omega : i = 0 ∨ i = 1) with rfl | rfl
    · exact hc 0 _ rfl
    · exact hc 1 _ rfl
  · refine .inr ⟨by simp, g, 0, 3, rfl, by simp, by unfold maxLen; omega, fun i hi => ?_⟩
    rcases (by simp at hi; omega : i = 0 ∨ i = 1 ∨ i = 2) with rfl | rfl | rfl
    · exact hc 0 _ rfl
    · exact hc 1 _ rfl
    · exact hc 2 _ rfl

theorem cellI (I : Nat → Int) (w : World) (t : TypeId) : (w.alloc (.cells (insA I) t)).cell? ⟨w.heap.size, 0, none⟩ = some (.int .i64 (I 0)) ∧ (w.alloc (.cells (insA I) t)).cell? ⟨w.heap.size, 1, none⟩ = some (.int .i64 (I 1)) ∧ (w.alloc (.cells (insA I) t)).cell? ⟨w.heap.size, 2, none⟩ = some (.int .i64 (I 2)) ∧ (w.alloc (.cells (insA I) t)).cell? ⟨w.heap.size, 3, none⟩ = some (.int .i64 (I 3)) ∧ (w.alloc (.cells (insA I) t)).cell? ⟨w.heap.size, 4, none⟩ = some (.int .i64 (I 4)) ∧ (w.alloc (.cells (insA I) t)).cell? ⟨w.heap.size, 5, none⟩ = some (.int .i64 (I 5)) ∧ (w.alloc (.cells (insA I) t)).cell? ⟨w.heap.size, 6, none⟩ = some (.int .i64 (I 6)) ∧ (w.alloc (.cells (insA I) t)).cell? ⟨w.heap.size, 7, none⟩ = some (.int .i64 (I 7)) :=
  ⟨(Blk.new w _ _).cell rfl, (Blk.new w _ _).cell rfl, (Blk.new w _ _).cell rfl, (Blk.new w _ _).cell rfl, (Blk.new w _ _).cell rfl, (Blk.new w _ _).cell rfl, (Blk.new w _ _).cell rfl, (Blk.new w _ _).cell rfl⟩

set_option maxRecDepth 10000 in
set_option maxHeartbeats 2000000 in
theorem reads_other (I : Nat → Int) (w : World) (h5 : ¬ I 0 = 5) : Calls Tryz.prog 133 #[.agg (insA I)] w fun e w' => NewI w w' e (readsP I) := by
  obtain ⟨c0, c1, c2, c3, c4, c5, c6, c7⟩ := cellI I w 59
  have E := hide (show readsP I = if I 0 = 2 ∨ I 0 = 6 ∨ I 0 = 8 then [I 5] else if I 0 = 4 ∨ I 0 = 11 then [I 6] else if I 0 = 5 then [I 5, I 6, I 7].take (argsP (I 1) (I 2)) else if I 0 = 7 then [I 5, I 4] else if I 0 = 9 then [I 5, I 6] else [] from rfl)
  have d5 : (I 0 == 5) = false := beq_eq_false_iff_ne.2 h5
  generalize readsP I = y at *
  generalize I 0 = o at *
  generalize I 4 = a4 at *
  generalize I 5 = a5 at *
  generalize I 6 = a6 at *
  go_enter Tryz.func133, Tryz.ntmps133
  go_wp2
  all_goals
    go_ret
    have e := unhide E
    simp only [beq_iff_eq, beq_eq_false_iff_ne, ne_eq] at *
    repeat first | rw [if_pos (by omega)] at e | rw [if_neg (by omega)] at e
    subst e
    first
    | exact ⟨none, 0, rfl, Own.nil _ _ _ _, (Ext.refl w).alloc _⟩
    | exact NewI.of w _ [a5] (by simp)
    | exact NewI.of w _ [a6] (by simp)
    | exact NewI.of w _ [a5, a4] (by simp)
    | exact NewI.of w _ [a5, a6] (by simp)

set_option maxRecDepth 10000 in
set_option maxHeartbeats 2000000 in
theorem reads_do (I : Nat → Int) (w : World) (h5 : I 0 = 5) : Calls Tryz.prog 133 #[.agg (insA I)] w fun e w' => NewI w w' e (readsP I) := by
  obtain ⟨c0, c1, c2, c3, c4, c5, c6, c7⟩ := cellI I w 59
  have E := hide (show readsP I = [I 5, I 6, I 7].take (argsP (I 1) (I 2)) by simp [readsP, h5])
  have HA := hide (args_any (I 1) (I 2))
  have hle := argsP_le (I 1) (I 2)
  rw [h5] at c0
  generalize argsP (I 1) (I 2) = n at *
  have hX0 := (Ext.refl w).alloc (.cells (insA I) 59)
  generalize readsP I = y at *
  have d1 := c1
  have d2 := c2
  generalize I 1 = a1 at *
  generalize I 2 = a2 at *
  generalize I 5 = a5 at *
  generalize I 6 = a6 at *
  generalize I 7 = a7 at *
  generalize insA I = cs at *
  clear c3 c4 h5
  have X0 := hide hX0
  clear hX0
  have hsz : (w.alloc (.cells cs 59)).heap.size = w.heap.size + 1 := by simp
  have HZ := hide hsz
  clear hsz
  have hwx : w.heap.size + 1 = w.heap.size + 1 := rfl
  have HC : Hid (∀ wx, Ext (w.alloc (.cells cs 59)) wx → Ext w wx) := fun wx h => (unhide X0).trans h
  have hn : n = 0 ∨ n = 1 ∨ n = 2 ∨ n = 3 := by omega
  rw [← show ((Int.ofNat n) = (n : Int)) from rfl] at HA
  obtain ⟨m, hm⟩ : ∃ m : Int, Int.ofNat n = m := ⟨_, rfl⟩
  rw [hm] at HA
  have HCL : Hid (∀ wx, Ext (w.alloc (.cells cs 59)) wx → wx.cell? ⟨w.heap.size, 1, none⟩ = some (.int .i64 a1) ∧ wx.cell? ⟨w.heap.size, 2, none⟩ = some (.int .i64 a2) ∧ wx.cell? ⟨w.heap.size, 5, none⟩ = some (.int .i64 a5) ∧ wx.cell? ⟨w.heap.size, 6, none⟩ = some (.int .i64 a6) ∧ wx.cell? ⟨w.heap.size, 7, none⟩ = some (.int .i64 a7)) := fun wx hx => by
    have hc : ∀ j u, (w.alloc (.cells cs 59)).cell? ⟨w.heap.size, j, none⟩ = some u → wx.cell? ⟨w.heap.size, j, none⟩ = some u := fun j u hu => by
      rw [hx.cell (p := ⟨w.heap.size, j, none⟩) (World.block_lt_of_cell? _ _ hu)]
      exact hu
    exact ⟨hc _ _ c1, hc _ _ c2, hc _ _ c5, hc _ _ c6, hc _ _ c7⟩
  rcases hn with rfl | rfl | rfl | rfl
  · obtain rfl : m = 0 := hm.symm
    have HP := hide (fun (wx : World) (g : Nat) h => cloneI_any _ _ wx (Row.pre3 (w := wx) (g := g) (a := a5) (b := a6) (c := a7) (t := 3) h 0 hle) (by simp))
    simp only [List.take_succ_cons, List.take_zero] at HP E
    go_enter Tryz.func133, Tryz.ntmps133
    go_wp2
    go_region_held3 (fun wx => wx.cell? ⟨w.heap.size, 1, none⟩ = some (.int .i64 a1) ∧ wx.cell? ⟨w.heap.size, 2, none⟩ = some (.int .i64 a2) ∧ wx.cell? ⟨w.heap.size, 5, none⟩ = some (.int .i64 a5) ∧ wx.cell? ⟨w.heap.size, 6, none⟩ = some (.int .i64 a6) ∧ wx.cell? ⟨w.heap.size, 7, none⟩ = some (.int .i64 a7))
      (first | with_reducible exact unhide HCL _ ((Ext.refl _).drew) | with_reducible exact unhide HCL _ (((Ext.refl _).alloc _).drew) | with_reducible exact unhide HCL _ bx)
      (first
        | (go_at_call 37; refine (unhide HA _).mono ?_; rintro e w1 ⟨rfl, rfl⟩)
        | (go_at_call 174; refine (unhide HP _ _ ?h1).mono ?_; (case h1 => exact Blk.here (w := w.alloc (.cells cs 59)) (by simp)); rintro e w2 ⟨ao, cap, rfl, hown, hb⟩; have bx : Ext (w.alloc (.cells cs 59)) w2 := (((Ext.refl _).alloc _).drew).trans hb))
    all_goals
      have HO := hide (hown.low (b2 := w.heap.size) (by simp; omega))
      have HX := hide ((unhide HC) _ bx)
      clear hown hb bx
      go_wp2
      go_ret
      rw [unhide E]
      exact ⟨_, _, rfl, unhide HO, unhide HX⟩
  · obtain rfl : m = 1 := hm.symm
    have HP := hide (fun (wx : World) (g : Nat) h => cloneI_any _ _ wx (Row.pre3 (w := wx) (g := g) (a := a5) (b := a6) (c := a7) (t := 3) h 1 hle) (by simp))
    simp only [List.take_succ_cons, List.take_zero] at HP E
    go_enter Tryz.func133, Tryz.ntmps133
    go_wp2
    go_region_held3 (fun wx => wx.cell? ⟨w.heap.size, 1, none⟩ = some (.int .i64 a1) ∧ wx.cell? ⟨w.heap.size, 2, none⟩ = some (.int .i64 a2) ∧ wx.cell? ⟨w.heap.size, 5, none⟩ = some (.int .i64 a5) ∧ wx.cell? ⟨w.heap.size, 6, none⟩ = some (.int .i64 a6) ∧ wx.cell? ⟨w.heap.size, 7, none⟩ = some (.int .i64 a7))
      (first | with_reducible exact unhide HCL _ ((Ext.refl _).drew) | with_reducible exact unhide HCL _ (((Ext.refl _).alloc _).drew) | with_reducible exact unhide HCL _ bx)
      (first
        | (go_at_call 37; refine (unhide HA _).mono ?_; rintro e w1 ⟨rfl, rfl⟩)
        | (go_at_call 174; refine (unhide HP _ _ ?h1).mono ?_; (case h1 => exact Blk.here (w := w.alloc (.cells cs 59)) (by simp)); rintro e w2 ⟨ao, cap, rfl, hown, hb⟩; have bx : Ext (w.alloc (.cells cs 59)) w2 := (((Ext.refl _).alloc _).drew).trans hb))
    all_goals
      have HO := hide (hown.low (b2 := w.heap.size) (by simp; omega))
      have HX := hide ((unhide HC) _ bx)
      clear hown hb bx
      go_wp2
      go_ret
      rw [unhide E]
      exact ⟨_, _, rfl, unhide HO, unhide HX⟩
  · obtain rfl : m = 2 := hm.symm
    have HP := hide (fun (wx : World) (g : Nat) h => cloneI_any _ _ wx (Row.pre3 (w := wx) (g := g) (a := a5) (b := a6) (c := a7) (t := 3) h 2 hle) (by simp))
    simp only [List.take_succ_cons, List.take_zero] at HP E
    go_enter Tryz.func133, Tryz.ntmps133
    go_wp2
    go_region_held3 (fun wx => wx.cell? ⟨w.heap.size, 1, none⟩ = some (.int .i64 a1) ∧ wx.cell? ⟨w.heap.size, 2, none⟩ = some (.int .i64 a2) ∧ wx.cell? ⟨w.heap.size, 5, none⟩ = some (.int .i64 a5) ∧ wx.cell? ⟨w.heap.size, 6, none⟩ = some (.int .i64 a6) ∧ wx.cell? ⟨w.heap.size, 7, none⟩ = some (.int .i64 a7))
      (first | with_reducible exact unhide HCL _ ((Ext.refl _).drew) | with_reducible exact unhide HCL _ (((Ext.refl _).alloc _).drew) | with_reducible exact unhide HCL _ bx)
      (first
        | (go_at_call 37; refine (unhide HA _).mono ?_; rintro e w1 ⟨rfl, rfl⟩)
        | (go_at_call 174; refine (unhide HP _ _ ?h1).mono ?_; (case h1 => exact Blk.here (w := w.alloc (.cells cs 59)) (by simp)); rintro e w2 ⟨ao, cap, rfl, hown, hb⟩; have bx : Ext (w.alloc (.cells cs 59)) w2 := (((Ext.refl _).alloc _).drew).trans hb))
    all_goals
      have HO := hide (hown.low (b2 := w.heap.size) (by simp; omega))
      have HX := hide ((unhide HC) _ bx)
      clear hown hb bx
      go_wp2
      go_ret
      rw [unhide E]
      exact ⟨_, _, rfl, unhide HO, unhide HX⟩
  · obtain rfl : m = 3 := hm.symm
    have HP := hide (fun (wx : World) (g : Nat) h => cloneI_any _ _ wx (Row.pre3 (w := wx) (g := g) (a := a5) (b := a6) (c := a7) (t := 3) h 3 hle) (by simp))
    simp only [List.take_succ_cons, List.take_zero] at HP E
    go_enter Tryz.func133, Tryz.ntmps133
    go_wp2
    go_region_held3 (fun wx => wx.cell? ⟨w.heap.size, 1, none⟩ = some (.int .i64 a1) ∧ wx.cell? ⟨w.heap.size, 2, none⟩ = some (.int .i64 a2) ∧ wx.cell? ⟨w.heap.size, 5, none⟩ = some (.int .i64 a5) ∧ wx.cell? ⟨w.heap.size, 6, none⟩ = some (.int .i64 a6) ∧ wx.cell? ⟨w.heap.size, 7, none⟩ = some (.int .i64 a7))
      (first | with_reducible exact unhide HCL _ ((Ext.refl _).drew) | with_reducible exact unhide HCL _ (((Ext.refl _).alloc _).drew) | with_reducible exact unhide HCL _ bx)
      (first
        | (go_at_call 37; refine (unhide HA _).mono ?_; rintro e w1 ⟨rfl, rfl⟩)
        | (go_at_call 174; refine (unhide HP _ _ ?h1).mono ?_; (case h1 => exact Blk.here (w := w.alloc (.cells cs 59)) (by simp)); rintro e w2 ⟨ao, cap, rfl, hown, hb⟩; have bx : Ext (w.alloc (.cells cs 59)) w2 := (((Ext.refl _).alloc _).drew).trans hb))
    all_goals
      have HO := hide (hown.low (b2 := w.heap.size) (by simp; omega))
      have HX := hide ((unhide HC) _ bx)
      clear hown hb bx
      go_wp2
      go_ret
      rw [unhide E]
      exact ⟨_, _, rfl, unhide HO, unhide HX⟩

theorem reads_any (I : Nat → Int) (w : World) : Calls Tryz.prog 133 #[.agg (insA I)] w fun e w' => NewI w w' e (readsP I) := by
  by_cases h : I 0 = 5
  · exact reads_do I w h
  · exact reads_other I w h
end Go.Proofs.YtglfhmlcmffoaaaGreat
