/- Several texts in one. -/
import Derived.Test.YtgmahpkhdnabjaaGreatPF
import Derived.Test.YtgmahpkhdnabjaaGreatW1J
import Derived.Test.YtgmahpkhdnabjaaGreatVMDJ
import Derived.Test.YtgmahpkhdnabjaaGreatLemJ
import Derived.Deep.RegionHeld3
/-
  Pixels: the numbers of the seven formats, what stands in their bytes, and rows of vectors in memory. Plain facts, and number and colour at a format. What the dump lacks is left out.
-/
namespace Go.Proofs.YtgmahpkhdnabjaaGreat
open Go.RowKit

theorem seven {f : Nat} (h1 : 1 ≤ f) (h7 : f ≤ 7) : f = 1 ∨ f = 2 ∨ f = 3 ∨ f = 4 ∨ f = 5 ∨ f = 6 ∨ f = 7 := by omega
theorem chs_ok {f : Nat} (h1 : 1 ≤ f) (h7 : f ≤ 7) : LOK (chs f) := by
  intro k hk
  rcases seven h1 h7 with rfl | rfl | rfl | rfl | rfl | rfl | rfl <;> rcases (by omega : k = 0 ∨ k = 1 ∨ k = 2 ∨ k = 3) with rfl | rfl | rfl | rfl <;> decide
theorem chs_up {f : Nat} (h1 : 1 ≤ f) (h7 : f ≤ 7) : LUp (chs f) := by
  intro k hk
  rcases seven h1 h7 with rfl | rfl | rfl | rfl | rfl | rfl | rfl <;> rcases (by omega : k = 0 ∨ k = 1 ∨ k = 2 ∨ k = 3) with rfl | rfl | rfl | rfl <;> decide

theorem or_hi (i : Nat) {x y : Int} (hx : 0 ≤ x) (hy : 0 ≤ y) (hy2 : y < 2 ^ i) (hd : x % 2 ^ i = 0) (hb : x + y < 4294967296) : bits .or .u32 x y = x + y := by
  obtain ⟨X, rfl⟩ := Int.eq_ofNat_of_zero_le hx
  obtain ⟨Y, rfl⟩ := Int.eq_ofNat_of_zero_le hy
  have e : (2 : Int) ^ i = ((2 ^ i : Nat) : Int) := by simp
  rw [e] at hy2 hd
  have hY : Y < 2 ^ i := by omega
  have hX : X % 2 ^ i = 0 := by exact_mod_cast hd
  rw [u32_or_nat X Y (by omega) (by omega)]
  obtain ⟨q, hq⟩ := Nat.dvd_of_mod_eq_zero hX
  rw [hq, ← Nat.two_pow_add_eq_or_of_lt hY]
  simp
theorem or_lo (i : Nat) {x y : Int} (hx : 0 ≤ x) (hy : 0 ≤ y) (hx2 : x < 2 ^ i) (hd : y % 2 ^ i = 0) (hb : x + y < 4294967296) : bits .or .u32 x y = x + y := by
  obtain ⟨X, rfl⟩ := Int.eq_ofNat_of_zero_le hx
  obtain ⟨Y, rfl⟩ := Int.eq_ofNat_of_zero_le hy
  have e : (2 : Int) ^ i = ((2 ^ i : Nat) : Int) := by simp
  rw [e] at hx2 hd
  have hX : X < 2 ^ i := by omega
  have hY : Y % 2 ^ i = 0 := by exact_mod_cast hd
  rw [u32_or_nat X Y (by omega) (by omega)]
  obtain ⟨q, hq⟩ := Nat.dvd_of_mod_eq_zero hY
  rw [hq, Nat.or_comm, ← Nat.two_pow_add_eq_or_of_lt hX]
  push_cast
  omega

/-- A colour's channels as one number. -/
def packN (f : Nat) (c : Nat → Int) : Int := packK (chs f) c 4

theorem b8 (x : Int) : 0 ≤ bitsI x 8 ∧ bitsI x 8 ≤ 255 := bits_bound x (by decide)
theorem b6 (x : Int) : 0 ≤ bitsI x 6 ∧ bitsI x 6 ≤ 63 := bits_bound x (by decide)
theorem b5 (x : Int) : 0 ≤ bitsI x 5 ∧ bitsI x 5 ≤ 31 := bits_bound x (by decide)
theorem b4 (x : Int) : 0 ≤ bitsI x 4 ∧ bitsI x 4 ≤ 15 := bits_bound x (by decide)
theorem b1 (x : Int) : 0 ≤ bitsI x 1 ∧ bitsI x 1 ≤ 1 := bits_bound x (by decide)

theorem pack_step (L : Nat → Nat) (c : Nat → Int) (k : Nat) (b s p : Nat) (h : (L (4 * k), L (4 * k + 1), L (4 * k + 2)) = (b, s, p)) (hb : 0 < b) :
    packK L c (k + 1) = bits .or .u32 (packK L c k) (bitsI (c p) b * 2 ^ s % 4294967296) := by
  obtain ⟨rfl, rfl, rfl⟩ : L (4 * k) = b ∧ L (4 * k + 1) = s ∧ L (4 * k + 2) = p := by simpa using h
  exact if_pos hb
theorem pack_skip (L : Nat → Nat) (c : Nat → Int) (k : Nat) (h : L (4 * k) = 0) : packK L c (k + 1) = packK L c k := if_neg (by omega)

theorem pack1 (c : Nat → Int) : packN 1 c = bitsI (c 0) 8 + 256 * bitsI (c 1) 8 + 65536 * bitsI (c 2) 8 + 16777216 * bitsI (c 3) 8 := by
  have e0 : packK (chs 1) c 0 = 0 := rfl
  have h0 := b8 (c 0)
  have e1 : packK (chs 1) c 1 = bitsI (c 0) 8 := by
    rw [pack_step _ c 0 8 0 0 rfl (by decide), e0, or_lo 0 (by omega) (by omega) (by omega) (by omega) (by omega)]
    omega
  have h1 := b8 (c 1)
  have e2 : packK (chs 1) c 2 = bitsI (c 0) 8 + 256 * bitsI (c 1) 8 := by
    rw [pack_step _ c 1 8 8 1 rfl (by decide), e1, or_lo 8 (by omega) (by omega) (by omega) (by omega) (by omega)]
    omega
  have h2 := b8 (c 2)
  have e3 : packK (chs 1) c 3 = bitsI (c 0) 8 + 256 * bitsI (c 1) 8 + 65536 * bitsI (c 2) 8 := by
    rw [pack_step _ c 2 8 16 2 rfl (by decide), e2, or_lo 16 (by omega) (by omega) (by omega) (by omega) (by omega)]
    omega
  have h3 := b8 (c 3)
  have e4 : packK (chs 1) c 4 = bitsI (c 0) 8 + 256 * bitsI (c 1) 8 + 65536 * bitsI (c 2) 8 + 16777216 * bitsI (c 3) 8 := by
    rw [pack_step _ c 3 8 24 3 rfl (by decide), e3, or_lo 24 (by omega) (by omega) (by omega) (by omega) (by omega)]
    omega
  exact e4
theorem pack2 (c : Nat → Int) : packN 2 c = 2048 * bitsI (c 0) 5 + 32 * bitsI (c 1) 6 + bitsI (c 2) 5 := by
  have e0 : packK (chs 2) c 0 = 0 := rfl
  have h0 := b5 (c 0)
  have e1 : packK (chs 2) c 1 = 2048 * bitsI (c 0) 5 := by
    rw [pack_step _ c 0 5 11 0 rfl (by decide), e0, or_lo 0 (by omega) (by omega) (by omega) (by omega) (by omega)]
    omega
  have h1 := b6 (c 1)
  have e2 : packK (chs 2) c 2 = 2048 * bitsI (c 0) 5 + 32 * bitsI (c 1) 6 := by
    rw [pack_step _ c 1 6 5 1 rfl (by decide), e1, or_hi 11 (by omega) (by omega) (by omega) (by omega) (by omega)]
    omega
  have h2 := b5 (c 2)
  have e3 : packK (chs 2) c 3 = 2048 * bitsI (c 0) 5 + 32 * bitsI (c 1) 6 + bitsI (c 2) 5 := by
    rw [pack_step _ c 2 5 0 2 rfl (by decide), e2, or_hi 5 (by omega) (by omega) (by omega) (by omega) (by omega)]
    omega
  have e4 : packK (chs 2) c 4 = 2048 * bitsI (c 0) 5 + 32 * bitsI (c 1) 6 + bitsI (c 2) 5 := by rw [pack_skip _ c 3 rfl, e3]
  exact e4
theorem pack3 (c : Nat → Int) : packN 3 c = 4096 * bitsI (c 0) 4 + 256 * bitsI (c 1) 4 + 16 * bitsI (c 2) 4 + bitsI (c 3) 4 := by
  have e0 : packK (chs 3) c 0 = 0 := rfl
  have h0 := b4 (c 0)
  have e1 : packK (chs 3) c 1 = 4096 * bitsI (c 0) 4 := by
    rw [pack_step _ c 0 4 12 0 rfl (by decide), e0, or_lo 0 (by omega) (by omega) (by omega) (by omega) (by omega)]
    omega
  have h1 := b4 (c 1)
  have e2 : packK (chs 3) c 2 = 4096 * bitsI (c 0) 4 + 256 * bitsI (c 1) 4 := by
    rw [pack_step _ c 1 4 8 1 rfl (by decide), e1, or_hi 12 (by omega) (by omega) (by omega) (by omega) (by omega)]
    omega
  have h2 := b4 (c 2)
  have e3 : packK (chs 3) c 3 = 4096 * bitsI (c 0) 4 + 256 * bitsI (c 1) 4 + 16 * bitsI (c 2) 4 := by
    rw [pack_step _ c 2 4 4 2 rfl (by decide), e2, or_hi 8 (by omega) (by omega) (by omega) (by omega) (by omega)]
    omega
  have h3 := b4 (c 3)
  have e4 : packK (chs 3) c 4 = 4096 * bitsI (c 0) 4 + 256 * bitsI (c 1) 4 + 16 * bitsI (c 2) 4 + bitsI (c 3) 4 := by
    rw [pack_step _ c 3 4 0 3 rfl (by decide), e3, or_hi 4 (by omega) (by omega) (by omega) (by omega) (by omega)]
    omega
  exact e4
theorem pack4 (c : Nat → Int) : packN 4 c = 2048 * bitsI (c 0) 5 + 64 * bitsI (c 1) 5 + 2 * bitsI (c 2) 5 + bitsI (c 3) 1 := by
  have e0 : packK (chs 4) c 0 = 0 := rfl
  have h0 := b5 (c 0)
  have e1 : packK (chs 4) c 1 = 2048 * bitsI (c 0) 5 := by
    rw [pack_step _ c 0 5 11 0 rfl (by decide), e0, or_lo 0 (by omega) (by omega) (by omega) (by omega) (by omega)]
    omega
  have h1 := b5 (c 1)
  have e2 : packK (chs 4) c 2 = 2048 * bitsI (c 0) 5 + 64 * bitsI (c 1) 5 := by
    rw [pack_step _ c 1 5 6 1 rfl (by decide), e1, or_hi 11 (by omega) (by omega) (by omega) (by omega) (by omega)]
    omega
  have h2 := b5 (c 2)
  have e3 : packK (chs 4) c 3 = 2048 * bitsI (c 0) 5 + 64 * bitsI (c 1) 5 + 2 * bitsI (c 2) 5 := by
    rw [pack_step _ c 2 5 1 2 rfl (by decide), e2, or_hi 6 (by omega) (by omega) (by omega) (by omega) (by omega)]
    omega
  have h3 := b1 (c 3)
  have e4 : packK (chs 4) c 4 = 2048 * bitsI (c 0) 5 + 64 * bitsI (c 1) 5 + 2 * bitsI (c 2) 5 + bitsI (c 3) 1 := by
    rw [pack_step _ c 3 1 0 3 rfl (by decide), e3, or_hi 1 (by omega) (by omega) (by omega) (by omega) (by omega)]
    omega
  exact e4
theorem pack5 (c : Nat → Int) : packN 5 c = bitsI (c 0) 8 := by
  have e0 : packK (chs 5) c 0 = 0 := rfl
  have h0 := b8 (c 0)
  have e1 : packK (chs 5) c 1 = bitsI (c 0) 8 := by
    rw [pack_step _ c 0 8 0 0 rfl (by decide), e0, or_lo 0 (by omega) (by omega) (by omega) (by omega) (by omega)]
    omega
  have e2 : packK (chs 5) c 2 = bitsI (c 0) 8 := by rw [pack_skip _ c 1 rfl, e1]
  have e3 : packK (chs 5) c 3 = bitsI (c 0) 8 := by rw [pack_skip _ c 2 rfl, e2]
  have e4 : packK (chs 5) c 4 = bitsI (c 0) 8 := by rw [pack_skip _ c 3 rfl, e3]
  exact e4
theorem pack6 (c : Nat → Int) : packN 6 c = bitsI (c 3) 8 := by
  have e0 : packK (chs 6) c 0 = 0 := rfl
  have h0 := b8 (c 3)
  have e1 : packK (chs 6) c 1 = bitsI (c 3) 8 := by
    rw [pack_step _ c 0 8 0 3 rfl (by decide), e0, or_lo 0 (by omega) (by omega) (by omega) (by omega) (by omega)]
    omega
  have e2 : packK (chs 6) c 2 = bitsI (c 3) 8 := by rw [pack_skip _ c 1 rfl, e1]
  have e3 : packK (chs 6) c 3 = bitsI (c 3) 8 := by rw [pack_skip _ c 2 rfl, e2]
  have e4 : packK (chs 6) c 4 = bitsI (c 3) 8 := by rw [pack_skip _ c 3 rfl, e3]
  exact e4
theorem pack7 (c : Nat → Int) : packN 7 c = bitsI (c 0) 8 + 256 * bitsI (c 3) 8 := by
  have e0 : packK (chs 7) c 0 = 0 := rfl
  have h0 := b8 (c 0)
  have e1 : packK (chs 7) c 1 = bitsI (c 0) 8 := by
    rw [pack_step _ c 0 8 0 0 rfl (by decide), e0, or_lo 0 (by omega) (by omega) (by omega) (by omega) (by omega)]
    omega
  have h1 := b8 (c 3)
  have e2 : packK (chs 7) c 2 = bitsI (c 0) 8 + 256 * bitsI (c 3) 8 := by
    rw [pack_step _ c 1 8 8 3 rfl (by decide), e1, or_lo 8 (by omega) (by omega) (by omega) (by omega) (by omega)]
    omega
  have e3 : packK (chs 7) c 3 = bitsI (c 0) 8 + 256 * bitsI (c 3) 8 := by rw [pack_skip _ c 2 rfl, e2]
  have e4 : packK (chs 7) c 4 = bitsI (c 0) 8 + 256 * bitsI (c 3) 8 := by rw [pack_skip _ c 3 rfl, e3]
  exact e4

theorem pack_bound (f : Nat) (c : Nat → Int) (h1 : 1 ≤ f) (h7 : f ≤ 7) : 0 ≤ packN f c ∧ packN f c < 4294967296 := by
  have a0 := b8 (c 0)
  have a1 := b8 (c 1)
  have a2 := b8 (c 2)
  have a3 := b8 (c 3)
  have d0 := b5 (c 0)
  have d1 := b5 (c 1)
  have d2 := b5 (c 2)
  have d3 := b1 (c 3)
  have e1 := b6 (c 1)
  have g0 := b4 (c 0)
  have g1 := b4 (c 1)
  have g2 := b4 (c 2)
  have g3 := b4 (c 3)
  rcases seven h1 h7 with rfl | rfl | rfl | rfl | rfl | rfl | rfl
  · rw [pack1]; omega
  · rw [pack2]; omega
  · rw [pack3]; omega
  · rw [pack4]; omega
  · rw [pack5]; omega
  · rw [pack6]; omega
  · rw [pack7]; omega

/-- The colour of the bytes whose number is x. -/
def colN (f : Nat) (x : Int) : Nat → Int := colK (opq f) (chs f) x 4

theorem colour_any (f : Nat) (ao : Option Addr) (cap : Nat) (xs : List Int) (w : World) (h1 : 1 ≤ f) (h7 : f ≤ 7) (hr : Row .u8 w (.slice ao xs.length cap) xs) (hB : Byt xs) (hl : xs.length = siz f) :
    Calls Tryz.prog 218 #[.agg (layF f), .slice ao xs.length cap] w fun e w' => e = .returned (.agg #[.int .i32 (colN f (numOf xs) 0), .int .i32 (colN f (numOf xs) 1), .int .i32 (colN f (numOf xs) 2), .int .i32 (colN f (numOf xs) 3)]) ∧ Ext w w' :=
  colour_lay f (siz f) (opq f) (chs f) ao cap xs w (chs_ok h1 h7) (chs_up h1 h7) hr hB (by rw [hl]; exact siz_three h1 h7)
end Go.Proofs.YtgmahpkhdnabjaaGreat

/-
  The walks of octet's put, Put16, Put32. What the dump lacks is left out.
-/
namespace Go.Proofs.YtgmahpkhdnabjaaGreat
open Go.RowKit

end Go.Proofs.YtgmahpkhdnabjaaGreat

/-
  Pixels: rows of vectors in memory, and the walks of Lay and Pack. What the dump lacks is left out.
-/
namespace Go.Proofs.YtgmahpkhdnabjaaGreat
open Go.RowKit

/-- The slice value v holds the vectors cs. -/
def VRow (w : World) (v : Value) (cs : List (Nat → Int)) : Prop :=
  (cs = [] ∧ ∃ ao cap, v = .slice ao 0 cap) ∨
  (cs ≠ [] ∧ ∃ b off cap, v = .slice (some ⟨b, off, none⟩) cs.length cap ∧ ∀ i j, i < cs.length → j < 4 → w.cell? ⟨b, off + i * 4 + j, none⟩ = some (.int .i32 (cs.getD i nul j)))
theorem VRow.ext {w w' : World} {v : Value} {cs : List (Nat → Int)} (h : VRow w v cs) (hx : Ext w w') : VRow w' v cs := by
  rcases h with h | ⟨hne, b, off, cap, rfl, hc⟩
  · exact .inl h
  · refine .inr ⟨hne, b, off, cap, rfl, fun i j hi hj => ?_⟩
    rw [hx.cell (p := ⟨b, off + i * 4 + j, none⟩) (World.block_lt_of_cell? w _ (hc i j hi hj))]
    exact hc i j hi hj
theorem VRow.shape {w : World} {v : Value} {cs : List (Nat → Int)} (h : VRow w v cs) : ∃ ao cap, v = .slice ao cs.length cap := by
  rcases h with ⟨rfl, ao, cap, rfl⟩ | ⟨_, b, off, cap, rfl, _⟩
  · exact ⟨ao, cap, rfl⟩
  · exact ⟨_, cap, rfl⟩
theorem VRow.at {w : World} {ao : Option Addr} {n cap : Nat} {cs : List (Nat → Int)} (h : VRow w (.slice ao n cap) cs) (i : Nat) (hi : i < cs.length) :
    ∃ b off, ao = some ⟨b, off, none⟩ ∧ ∀ i j, i < cs.length → j < 4 → w.cell? ⟨b, off + i * 4 + j, none⟩ = some (.int .i32 (cs.getD i nul j)) := by
  rcases h with ⟨rfl, _⟩ | ⟨_, b, off, c, hv, hc⟩
  · simp at hi
  · cases hv
    exact ⟨b, off, rfl, hc⟩

/-- The bytes of a colour. -/
def pk (f : Nat) (c : Nat → Int) : List Int := low (packN f c) (siz f)
/-- The bytes of all colours. -/
def layL (f : Nat) (cs : List (Nat → Int)) : List Int := cs.flatMap (pk f)
theorem pk_length (f : Nat) (c : Nat → Int) : (pk f c).length = siz f := low_length _ _
theorem layL_length (f : Nat) (cs : List (Nat → Int)) : (layL f cs).length = cs.length * siz f := by
  induction cs with
  | nil => simp [layL]
  | cons c cs ih =>
    unfold layL at *
    rw [List.flatMap_cons, List.length_append, ih, pk_length, List.length_cons, Nat.succ_mul]
    omega
theorem layL_next (f : Nat) (cs : List (Nat → Int)) (k : Nat) (hk : k < cs.length) : layL f (cs.take (k + 1)) = layL f (cs.take k) ++ pk f (cs.getD k nul) := by
  rw [List.take_succ_eq_append_getElem hk]
  unfold layL
  rw [List.flatMap_append]
  simp [hk]

/-- The block g holds the bytes xs, no more. -/
def Bys (w : World) (g : Nat) (xs : List Int) : Prop := w.heap[g]? = some (.cells (xs.map (Value.int .u8)).toArray 5 (0, 0))
theorem Own.bys {w : World} {base g n : Nat} {xs : List Int} (h : Own .u8 w base 5 (.slice (some ⟨g, 0, none⟩) n n) xs) : Bys w g xs := by
  obtain ⟨hl, h2⟩ := h
  rcases h2 with ⟨h2, _⟩ | ⟨g2, cap, cur, hv, hb, hg, hn, hm, hs, ht⟩
  · cases h2
  · cases hv
    have e : cur.toList = xs.map (Value.int .u8) := by
      rw [← ht]
      rw [List.take_of_length_le]
      simp
      omega
    unfold Bys
    rw [hg, ← e]
theorem Bys.row {w : World} {g : Nat} {xs : List Int} (h : Bys w g xs) (hm : xs.length ≤ maxLen) : Row .u8 w (.slice (some ⟨g, 0, none⟩) xs.length xs.length) xs := by
  by_cases h0 : xs = []
  · subst h0
    exact .inl ⟨rfl, _, _, rfl, (fun h => by cases h), Nat.zero_le _⟩
  · refine .inr ⟨h0, g, 0, xs.length, rfl, Nat.le_refl _, hm, fun i hi => ?_⟩
    have := Blk.cell (w := w) (b := g) h (i := 0 + i) (v := .int .u8 (xs.getD i 0)) (by simp [hi])
    exact this

theorem splice_mid (A ys : List Int) (m : Nat) : splice ((A ++ List.replicate m 0).map (Value.int .u8)) A.length (ys.map (Value.int .u8)) = (A ++ ys ++ List.replicate (m - ys.length) 0).map (Value.int .u8) := by
  unfold splice
  rw [List.map_append, List.take_left' (by simp), List.length_map, List.drop_append]
  simp

theorem Bys.ext {w w' : World} {g : Nat} {xs : List Int} (h : Bys w g xs) (hx : Ext w w') : Bys w' g xs := Blk.ext h hx
theorem bys_ext {w w' : World} {g : Nat} {xs : List Int} (hx : Ext w w') (h : Bys w g xs) : Bys w' g xs := Blk.ext h hx
theorem size5 : (Tryz.prog.info? 5).map (·.size) = some 1 := by kernel_rfl

theorem low_take (x : Int) (f : Nat) (h1 : 1 ≤ f) (h7 : f ≤ 7) (j : Nat) (hj : j < siz f) : (low x 4).getD j 0 = (low x (siz f)).getD j 0 := by
  rcases siz_three h1 h7 with h | h | h <;> rw [h] at hj ⊢
  · obtain rfl : j = 0 := by omega
    rfl
  · rcases (by omega : j = 0 ∨ j = 1) with rfl | rfl <;> rfl

/-- 'copy' into a block that is known whole, as one step of a region that draws. -/
theorem step_copy_own {P : Program} {ops : Array Oper} {o : Oper} {a : Act} {w : World} {K : Act → World → Prop} {Q : Exit → Act → World → Prop} {E : Prop} (hgd : o.guard = none) (d s : Operand) (dT sT : TypeId)
    (ho : o.op = .call { callee := .builtin .copy, args := #[d, s], argTypes := #[dT, sT] }) (elem : TypeId) (hu : P.underlying dT = some (.slice elem)) (hsz : (P.info? elem).map (·.size) = some 1)
    (g off dLen dCap : Nat) (ad : Addr) (sLen sCap : Nat) (hd : a.eval d = .slice (some ⟨g, off, none⟩) dLen dCap) (hs : a.eval s = .slice (some ad) sLen sCap)
    (cur : Array Value) (t : TypeId) (hg : w.heap[g]? = some (.cells cur t (0, 0))) (cs : List Value) (hn : cs.length = Nat.min sLen dLen)
    (hsrc : ∀ j v, cs[j]? = some v → w.cell? (ad.add j) = some v) (hfit : off + cs.length ≤ cur.size) (h1 : ∀ v ∈ cs, v.oneCell' = true)
    (h : K (a.put o.dst (goInt cs.length)) (w.setRow g (cur.toList.take off ++ (cs ++ cur.toList.drop (off + cs.length))).toArray)) :
    if Region.wanted o (yielded ops a.tmps) = true then Oper.wp P o a w K Q else E := by
  have hw : Region.wanted o (yielded ops a.tmps) = true := by simp [Region.wanted, hgd]
  rw [if_pos hw]
  have hrun := run_copy_row (P := P) w dT sT o.type elem g off dLen dCap ad sLen sCap cur t cs hu hsz hg hn hsrc hfit h1
  unfold Oper.wp
  simp [execOp, ho, resolve, invoke, builtin, hd, hs, hrun, Result.andThen]
  exact h

/-- The same for a pixel's bytes: S bytes of the four go to place k. -/
theorem step_copy_px {P : Program} {ops : Array Oper} {o : Oper} {a : Act} {w : World} {K : Act → World → Prop} {Q : Exit → Act → World → Prop} {E : Prop} (hgd : o.guard = none) (d s : Operand) (dT sT : TypeId)
    (ho : o.op = .call { callee := .builtin .copy, args := #[d, s], argTypes := #[dT, sT] }) (hu : P.underlying dT = some (.slice 5)) (hsz : (P.info? 5).map (·.size) = some 1)
    (f g k b off cap : Nat) (x : Int) (h1 : 1 ≤ f) (h7 : f ≤ 7) (hd : a.eval d = .slice (some ⟨g, k * siz f, none⟩) (siz f) (siz f)) (hs : a.eval s = .slice (some ⟨b, off, none⟩) 4 cap)
    (hc : ∀ j, j < 4 → w.cell? ⟨b, off + j, none⟩ = some (.int .u8 ((low x 4).getD j 0)))
    (A : List Int) (m : Nat) (hA : A.length = k * siz f) (hm : siz f ≤ m) (hg : Bys w g (A ++ List.replicate m 0))
    (h : ∀ w', Bys w' g (A ++ low x (siz f) ++ List.replicate (m - siz f) 0) → (∀ B w0, Below B w0 w → B ≤ g → Below B w0 w') → (∀ r cs t, r ≠ g → Blk w r cs t → Blk w' r cs t) → K (a.put o.dst (goInt (siz f : Nat))) w') :
    if Region.wanted o (yielded ops a.tmps) = true then Oper.wp P o a w K Q else E := by
  have hl := low_length x (siz f)
  have hS := siz_three h1 h7
  refine step_copy_own hgd d s dT sT ho 5 hu hsz g (k * siz f) (siz f) (siz f) ⟨b, off, none⟩ 4 cap hd hs _ 5 hg ((low x (siz f)).map (Value.int .u8)) ?_ ?_ ?_ ?_ ?_
  · simp only [List.length_map, hl]
    rcases hS with h | h | h <;> rw [h] <;> rfl
  · intro j v hv
    have hj : j < siz f := by
      have := (List.getElem?_eq_some_iff.1 hv).1
      simpa [hl] using this
    rw [Addr.add_mid, hc j (by omega), low_take x f h1 h7 j hj, ← hv]
    simp [hl, hj]
  · simp [hl, hA]
    omega
  · intro v hv
    obtain ⟨n, _, rfl⟩ := List.mem_map.1 hv
    rfl
  · have e := splice_mid A (low x (siz f)) m
    unfold splice at e
    rw [hA, hl] at e
    simp only [List.length_map, hl] at e ⊢
    rw [e]
    exact h _ (Blk.row hg) (fun B w0 hb hB => below_setRow hb hB _) (fun r cs t hr hB => hB.rowOther hr)

/-- What Lay's round reads. -/
def HeldL (f b6 b10 : Nat) (c : Nat → Int) (w : World) : Prop := Blk w b6 (layF f) 182 ∧ Blk w b10 #[.int .i32 (c 0), .int .i32 (c 1), .int .i32 (c 2), .int .i32 (c 3)] 28

theorem HeldL.ext {f b6 b10 : Nat} {c : Nat → Int} {w w' : World} (h : HeldL f b6 b10 c w) (hx : Ext w w') : HeldL f b6 b10 c w' := ⟨h.1.ext hx, h.2.ext hx⟩

end Go.Proofs.YtgmahpkhdnabjaaGreat
