/- Several texts in one. -/
import Derived.Test.YtadajaoidhbmgaaPC
import Derived.Test.YtadajaoidhbmgaaW1J
import Derived.Test.YtadajaoidhbmgaaPF
/-
  Pixels: the walks of pixel (the bytes of one pixel) and of whole (bytes as a number). What the dump lacks is left out.
-/
namespace Go.Proofs.Ytadajaoidhbmgaa
open Go.RowKit

theorem siz_three {f : Nat} (h1 : 1 ≤ f) (h7 : f ≤ 7) : siz f = 1 ∨ siz f = 2 ∨ siz f = 4 := by
  rcases (by omega : f = 1 ∨ f = 2 ∨ f = 3 ∨ f = 4 ∨ f = 5 ∨ f = 6 ∨ f = 7) with rfl | rfl | rfl | rfl | rfl | rfl | rfl <;> decide

theorem sl_eq {b o o' n n' c c' : Nat} (h1 : o = o') (h2 : n = n') (h3 : c = c') : Ending.returned (.slice (some ⟨b, o, none⟩) n c) = .returned (.slice (some ⟨b, o', none⟩) n' c') := by subst h1 h2 h3; rfl

theorem took_all (xs : List Int) : (took xs 0 0 (xs.length : Int)).1 = xs := by
  rw [took_full (by omega) (by simp)]
  simp
theorem ext_grownP {w w1 w2 : World} {rb : Nat} (h : Ext w w1) (hg : w1.grownBy w2 (some rb)) (hb : w.heap.size ≤ rb) : Ext w w2 := below_grown h hg h.size hb

set_option maxHeartbeats 1000000 in
theorem whole_any (ao : Option Addr) (cap : Nat) (xs : List Int) (w : World) (hr : Row .u8 w (.slice ao xs.length cap) xs) (hB : Byt xs) (hl : xs.length = 1 ∨ xs.length = 2 ∨ xs.length = 4) :
    Calls Try.prog 58 #[.slice ao xs.length cap] w fun e w' => e = .returned (.int .u32 (numOf xs)) ∧ Ext w w' := by
  have hb := numOf_le xs hB xs.length (Nat.le_refl _)
  have HT := hide (took_all xs)
  go_enter Try.func58, Try.ntmps58
  go_wp2_with fail
  refine (read_any _ xs w hr (by omega) hB).mono ?_
  rintro e w1 ⟨rb, sv, rfl, hrb, hrd, hx⟩
  have D := hide (And.intro hrb (And.intro hrd (show Ext w w1 from hx)))
  clear hrb hrd hx hr
  rcases hl with h | h | h
  · rw [h] at HT hb ⊢
    have hd : ((1 : Nat) : Int) = 1 := rfl
    go_wp2_with fail
    refine (u8_any (unhide D).2.1).mono ?_
    rintro e w2 ⟨rfl, _, hg⟩
    rw [show (took xs 0 0 1).1 = xs from unhide HT]
    have X := hide (ext_grownP (unhide D).2.2 hg (unhide D).1)
    clear hg
    go_wp2
    go_ret
    exact ⟨rfl, unhide X⟩
  · rw [h] at HT hb ⊢
    have hd : ((2 : Nat) : Int) = 2 := rfl
    go_wp2_with fail
    refine (u16_any (unhide D).2.1).mono ?_
    rintro e w2 ⟨rfl, _, hg⟩
    rw [show (took xs 0 0 2).1 = xs from unhide HT]
    have X := hide (ext_grownP (unhide D).2.2 hg (unhide D).1)
    clear hg
    go_wp2
    go_ret
    exact ⟨rfl, unhide X⟩
  · rw [h] at HT hb ⊢
    have hd : ((4 : Nat) : Int) = 4 := rfl
    go_wp2_with fail
    refine (u32_any (unhide D).2.1).mono ?_
    rintro e w2 ⟨rfl, _, hg⟩
    rw [show (took xs 0 0 4).1 = xs from unhide HT]
    have X := hide (ext_grownP (unhide D).2.2 hg (unhide D).1)
    clear hg
    go_wp2
    go_ret
    exact ⟨rfl, unhide X⟩
end Go.Proofs.Ytadajaoidhbmgaa

/-
  Pixels: the walk of number: a colour's channels as one number. What the dump lacks is left out.
-/
namespace Go.Proofs.Ytadajaoidhbmgaa
open Go.RowKit

/-- The number that the first k channels make. -/
def packK (L : Nat → Nat) (c : Nat → Int) : Nat → Int
  | 0 => 0
  | k + 1 => if 0 < L (4 * k) then bits .or .u32 (packK L c k) (bitsI (c (L (4 * k + 2))) (L (4 * k)) * 2 ^ L (4 * k + 1) % 4294967296) else packK L c k
/-- The numbers of a layout's channels are within what they may be. -/
def LOK (L : Nat → Nat) : Prop := ∀ k, k < 4 → L (4 * k) ≤ 16 ∧ L (4 * k + 1) ≤ 31 ∧ L (4 * k + 2) ≤ 3 ∧ L (4 * k + 3) ≤ 3

theorem chans_range (F S : Nat) (O : Bool) (L : Nat → Nat) (w : World) : (w.alloc (.cells (layA F S O L) 75)).rangeAt w.heap.size 3 [.int .i64 ((L 0 : Nat) : Int), .int .i64 ((L 1 : Nat) : Int), .int .i64 ((L 2 : Nat) : Int), .int .i64 ((L 3 : Nat) : Int), .int .i64 ((L 4 : Nat) : Int), .int .i64 ((L 5 : Nat) : Int), .int .i64 ((L 6 : Nat) : Int), .int .i64 ((L 7 : Nat) : Int), .int .i64 ((L 8 : Nat) : Int), .int .i64 ((L 9 : Nat) : Int), .int .i64 ((L 10 : Nat) : Int), .int .i64 ((L 11 : Nat) : Int), .int .i64 ((L 12 : Nat) : Int), .int .i64 ((L 13 : Nat) : Int), .int .i64 ((L 14 : Nat) : Int), .int .i64 ((L 15 : Nat) : Int)] := by
  intro j v hv
  refine (Blk.at rfl).cell ?_
  have hj : j < 16 := by simpa using (List.getElem?_eq_some_iff.1 hv).1
  have e : (layA F S O L).toList.drop 3 = [.int .i64 ((L 0 : Nat) : Int), .int .i64 ((L 1 : Nat) : Int), .int .i64 ((L 2 : Nat) : Int), .int .i64 ((L 3 : Nat) : Int), .int .i64 ((L 4 : Nat) : Int), .int .i64 ((L 5 : Nat) : Int), .int .i64 ((L 6 : Nat) : Int), .int .i64 ((L 7 : Nat) : Int), .int .i64 ((L 8 : Nat) : Int), .int .i64 ((L 9 : Nat) : Int), .int .i64 ((L 10 : Nat) : Int), .int .i64 ((L 11 : Nat) : Int), .int .i64 ((L 12 : Nat) : Int), .int .i64 ((L 13 : Nat) : Int), .int .i64 ((L 14 : Nat) : Int), .int .i64 ((L 15 : Nat) : Int)] := rfl
  rw [← e, List.getElem?_drop] at hv
  simpa using hv
theorem range_alloc {w : World} {b o : Nat} {cs : List Value} (h : w.rangeAt b o cs) (x : Obj) : (w.alloc x).rangeAt b o cs := by
  intro j v hv
  have := h j v hv
  rw [World.cell?_of_block (w := w) (heap_alloc_old w x (World.block_lt_of_cell? w _ this))]
  exact this
theorem size58 : (Try.prog.info? 73).map (·.size) = some 16 := by kernel_rfl
theorem index58_0 (L : Nat → Nat) (w : World) : (Instr.index 73 (.agg #[.int .i64 ((L 0 : Nat) : Int), .int .i64 ((L 1 : Nat) : Int), .int .i64 ((L 2 : Nat) : Int), .int .i64 ((L 3 : Nat) : Int), .int .i64 ((L 4 : Nat) : Int), .int .i64 ((L 5 : Nat) : Int), .int .i64 ((L 6 : Nat) : Int), .int .i64 ((L 7 : Nat) : Int), .int .i64 ((L 8 : Nat) : Int), .int .i64 ((L 9 : Nat) : Int), .int .i64 ((L 10 : Nat) : Int), .int .i64 ((L 11 : Nat) : Int), .int .i64 ((L 12 : Nat) : Int), .int .i64 ((L 13 : Nat) : Int), .int .i64 ((L 14 : Nat) : Int), .int .i64 ((L 15 : Nat) : Int)]) (.int .i64 0)).run Try.prog w = .ok (.agg #[.int .i64 ((L 0 : Nat) : Int), .int .i64 ((L 1 : Nat) : Int), .int .i64 ((L 2 : Nat) : Int), .int .i64 ((L 3 : Nat) : Int)]) w := by kernel_rfl
theorem index58_1 (L : Nat → Nat) (w : World) : (Instr.index 73 (.agg #[.int .i64 ((L 0 : Nat) : Int), .int .i64 ((L 1 : Nat) : Int), .int .i64 ((L 2 : Nat) : Int), .int .i64 ((L 3 : Nat) : Int), .int .i64 ((L 4 : Nat) : Int), .int .i64 ((L 5 : Nat) : Int), .int .i64 ((L 6 : Nat) : Int), .int .i64 ((L 7 : Nat) : Int), .int .i64 ((L 8 : Nat) : Int), .int .i64 ((L 9 : Nat) : Int), .int .i64 ((L 10 : Nat) : Int), .int .i64 ((L 11 : Nat) : Int), .int .i64 ((L 12 : Nat) : Int), .int .i64 ((L 13 : Nat) : Int), .int .i64 ((L 14 : Nat) : Int), .int .i64 ((L 15 : Nat) : Int)]) (.int .i64 1)).run Try.prog w = .ok (.agg #[.int .i64 ((L 4 : Nat) : Int), .int .i64 ((L 5 : Nat) : Int), .int .i64 ((L 6 : Nat) : Int), .int .i64 ((L 7 : Nat) : Int)]) w := by kernel_rfl
theorem index58_2 (L : Nat → Nat) (w : World) : (Instr.index 73 (.agg #[.int .i64 ((L 0 : Nat) : Int), .int .i64 ((L 1 : Nat) : Int), .int .i64 ((L 2 : Nat) : Int), .int .i64 ((L 3 : Nat) : Int), .int .i64 ((L 4 : Nat) : Int), .int .i64 ((L 5 : Nat) : Int), .int .i64 ((L 6 : Nat) : Int), .int .i64 ((L 7 : Nat) : Int), .int .i64 ((L 8 : Nat) : Int), .int .i64 ((L 9 : Nat) : Int), .int .i64 ((L 10 : Nat) : Int), .int .i64 ((L 11 : Nat) : Int), .int .i64 ((L 12 : Nat) : Int), .int .i64 ((L 13 : Nat) : Int), .int .i64 ((L 14 : Nat) : Int), .int .i64 ((L 15 : Nat) : Int)]) (.int .i64 2)).run Try.prog w = .ok (.agg #[.int .i64 ((L 8 : Nat) : Int), .int .i64 ((L 9 : Nat) : Int), .int .i64 ((L 10 : Nat) : Int), .int .i64 ((L 11 : Nat) : Int)]) w := by kernel_rfl
theorem index58_3 (L : Nat → Nat) (w : World) : (Instr.index 73 (.agg #[.int .i64 ((L 0 : Nat) : Int), .int .i64 ((L 1 : Nat) : Int), .int .i64 ((L 2 : Nat) : Int), .int .i64 ((L 3 : Nat) : Int), .int .i64 ((L 4 : Nat) : Int), .int .i64 ((L 5 : Nat) : Int), .int .i64 ((L 6 : Nat) : Int), .int .i64 ((L 7 : Nat) : Int), .int .i64 ((L 8 : Nat) : Int), .int .i64 ((L 9 : Nat) : Int), .int .i64 ((L 10 : Nat) : Int), .int .i64 ((L 11 : Nat) : Int), .int .i64 ((L 12 : Nat) : Int), .int .i64 ((L 13 : Nat) : Int), .int .i64 ((L 14 : Nat) : Int), .int .i64 ((L 15 : Nat) : Int)]) (.int .i64 3)).run Try.prog w = .ok (.agg #[.int .i64 ((L 12 : Nat) : Int), .int .i64 ((L 13 : Nat) : Int), .int .i64 ((L 14 : Nat) : Int), .int .i64 ((L 15 : Nat) : Int)]) w := by kernel_rfl
theorem Blk.vec {w : World} {b : Nat} {a : Nat → Int} {t : TypeId} (h : Blk w b #[.int .i32 (a 0), .int .i32 (a 1), .int .i32 (a 2), .int .i32 (a 3)] t) (k : Nat) (hk : k < 4) : w.cell? ⟨b, k, none⟩ = some (.int .i32 (a k)) := by
  refine h.cell ?_
  rcases (by omega : k = 0 ∨ k = 1 ∨ k = 2 ∨ k = 3) with rfl | rfl | rfl | rfl <;> rfl

end Go.Proofs.Ytadajaoidhbmgaa

/-
  Pixels: the numbers of the seven formats, what stands in their bytes, and rows of vectors in memory. Plain facts, and number and colour at a format. What the dump lacks is left out.
-/
namespace Go.Proofs.Ytadajaoidhbmgaa
open Go.RowKit

theorem seven {f : Nat} (h1 : 1 ≤ f) (h7 : f ≤ 7) : f = 1 ∨ f = 2 ∨ f = 3 ∨ f = 4 ∨ f = 5 ∨ f = 6 ∨ f = 7 := by omega
theorem chs_ok {f : Nat} (h1 : 1 ≤ f) (h7 : f ≤ 7) : LOK (chs f) := by
  intro k hk
  rcases seven h1 h7 with rfl | rfl | rfl | rfl | rfl | rfl | rfl <;> rcases (by omega : k = 0 ∨ k = 1 ∨ k = 2 ∨ k = 3) with rfl | rfl | rfl | rfl <;> decide
theorem chs_up {f : Nat} (h1 : 1 ≤ f) (h7 : f ≤ 7) : LUp (chs f) := by
  intro k hk
  rcases seven h1 h7 with rfl | rfl | rfl | rfl | rfl | rfl | rfl <;> rcases (by omega : k = 0 ∨ k = 1 ∨ k = 2 ∨ k = 3) with rfl | rfl | rfl | rfl <;> decide

theorem or_hi (i : Nat) {x y : Int} (hx : 0 ≤ x) (hy : 0 ≤ y) (hy2 : y < 2 ^ i) (hd : x % 2 ^ i = 0) (hb : x + y < 4294967296) : bits .or .u32 x y = x + y := by
  obtain ⟨X, rfl⟩ := Int.eq_ofNat_of_zero_le hx
  obtain ⟨Y, rfl⟩ := Int.eq_ofNat_of_zero_le hy
  have e : (2 : Int) ^ i = ((2 ^ i : Nat) : Int) := by simp
  rw [e] at hy2 hd
  have hY : Y < 2 ^ i := by omega
  have hX : X % 2 ^ i = 0 := by exact_mod_cast hd
  rw [u32_or_nat X Y (by omega) (by omega)]
  obtain ⟨q, hq⟩ := Nat.dvd_of_mod_eq_zero hX
  rw [hq, ← Nat.two_pow_add_eq_or_of_lt hY]
  simp
theorem or_lo (i : Nat) {x y : Int} (hx : 0 ≤ x) (hy : 0 ≤ y) (hx2 : x < 2 ^ i) (hd : y % 2 ^ i = 0) (hb : x + y < 4294967296) : bits .or .u32 x y = x + y := by
  obtain ⟨X, rfl⟩ := Int.eq_ofNat_of_zero_le hx
  obtain ⟨Y, rfl⟩ := Int.eq_ofNat_of_zero_le hy
  have e : (2 : Int) ^ i = ((2 ^ i : Nat) : Int) := by simp
  rw [e] at hx2 hd
  have hX : X < 2 ^ i := by omega
  have hY : Y % 2 ^ i = 0 := by exact_mod_cast hd
  rw [u32_or_nat X Y (by omega) (by omega)]
  obtain ⟨q, hq⟩ := Nat.dvd_of_mod_eq_zero hY
  rw [hq, Nat.or_comm, ← Nat.two_pow_add_eq_or_of_lt hX]
  push_cast
  omega

/-- A colour's channels as one number. -/
def packN (f : Nat) (c : Nat → Int) : Int := packK (chs f) c 4

theorem b8 (x : Int) : 0 ≤ bitsI x 8 ∧ bitsI x 8 ≤ 255 := bits_bound x (by decide)
theorem b6 (x : Int) : 0 ≤ bitsI x 6 ∧ bitsI x 6 ≤ 63 := bits_bound x (by decide)
theorem b5 (x : Int) : 0 ≤ bitsI x 5 ∧ bitsI x 5 ≤ 31 := bits_bound x (by decide)
theorem b4 (x : Int) : 0 ≤ bitsI x 4 ∧ bitsI x 4 ≤ 15 := bits_bound x (by decide)
theorem b1 (x : Int) : 0 ≤ bitsI x 1 ∧ bitsI x 1 ≤ 1 := bits_bound x (by decide)

theorem pack_step (L : Nat → Nat) (c : Nat → Int) (k : Nat) (b s p : Nat) (h : (L (4 * k), L (4 * k + 1), L (4 * k + 2)) = (b, s, p)) (hb : 0 < b) :
    packK L c (k + 1) = bits .or .u32 (packK L c k) (bitsI (c p) b * 2 ^ s % 4294967296) := by
  obtain ⟨rfl, rfl, rfl⟩ : L (4 * k) = b ∧ L (4 * k + 1) = s ∧ L (4 * k + 2) = p := by simpa using h
  exact if_pos hb
theorem pack_skip (L : Nat → Nat) (c : Nat → Int) (k : Nat) (h : L (4 * k) = 0) : packK L c (k + 1) = packK L c k := if_neg (by omega)

theorem pack1 (c : Nat → Int) : packN 1 c = bitsI (c 0) 8 + 256 * bitsI (c 1) 8 + 65536 * bitsI (c 2) 8 + 16777216 * bitsI (c 3) 8 := by
  have e0 : packK (chs 1) c 0 = 0 := rfl
  have h0 := b8 (c 0)
  have e1 : packK (chs 1) c 1 = bitsI (c 0) 8 := by
    rw [pack_step _ c 0 8 0 0 rfl (by decide), e0, or_lo 0 (by omega) (by omega) (by omega) (by omega) (by omega)]
    omega
  have h1 := b8 (c 1)
  have e2 : packK (chs 1) c 2 = bitsI (c 0) 8 + 256 * bitsI (c 1) 8 := by
    rw [pack_step _ c 1 8 8 1 rfl (by decide), e1, or_lo 8 (by omega) (by omega) (by omega) (by omega) (by omega)]
    omega
  have h2 := b8 (c 2)
  have e3 : packK (chs 1) c 3 = bitsI (c 0) 8 + 256 * bitsI (c 1) 8 + 65536 * bitsI (c 2) 8 := by
    rw [pack_step _ c 2 8 16 2 rfl (by decide), e2, or_lo 16 (by omega) (by omega) (by omega) (by omega) (by omega)]
    omega
  have h3 := b8 (c 3)
  have e4 : packK (chs 1) c 4 = bitsI (c 0) 8 + 256 * bitsI (c 1) 8 + 65536 * bitsI (c 2) 8 + 16777216 * bitsI (c 3) 8 := by
    rw [pack_step _ c 3 8 24 3 rfl (by decide), e3, or_lo 24 (by omega) (by omega) (by omega) (by omega) (by omega)]
    omega
  exact e4
theorem pack2 (c : Nat → Int) : packN 2 c = 2048 * bitsI (c 0) 5 + 32 * bitsI (c 1) 6 + bitsI (c 2) 5 := by
  have e0 : packK (chs 2) c 0 = 0 := rfl
  have h0 := b5 (c 0)
  have e1 : packK (chs 2) c 1 = 2048 * bitsI (c 0) 5 := by
    rw [pack_step _ c 0 5 11 0 rfl (by decide), e0, or_lo 0 (by omega) (by omega) (by omega) (by omega) (by omega)]
    omega
  have h1 := b6 (c 1)
  have e2 : packK (chs 2) c 2 = 2048 * bitsI (c 0) 5 + 32 * bitsI (c 1) 6 := by
    rw [pack_step _ c 1 6 5 1 rfl (by decide), e1, or_hi 11 (by omega) (by omega) (by omega) (by omega) (by omega)]
    omega
  have h2 := b5 (c 2)
  have e3 : packK (chs 2) c 3 = 2048 * bitsI (c 0) 5 + 32 * bitsI (c 1) 6 + bitsI (c 2) 5 := by
    rw [pack_step _ c 2 5 0 2 rfl (by decide), e2, or_hi 5 (by omega) (by omega) (by omega) (by omega) (by omega)]
    omega
  have e4 : packK (chs 2) c 4 = 2048 * bitsI (c 0) 5 + 32 * bitsI (c 1) 6 + bitsI (c 2) 5 := by rw [pack_skip _ c 3 rfl, e3]
  exact e4
theorem pack3 (c : Nat → Int) : packN 3 c = 4096 * bitsI (c 0) 4 + 256 * bitsI (c 1) 4 + 16 * bitsI (c 2) 4 + bitsI (c 3) 4 := by
  have e0 : packK (chs 3) c 0 = 0 := rfl
  have h0 := b4 (c 0)
  have e1 : packK (chs 3) c 1 = 4096 * bitsI (c 0) 4 := by
    rw [pack_step _ c 0 4 12 0 rfl (by decide), e0, or_lo 0 (by omega) (by omega) (by omega) (by omega) (by omega)]
    omega
  have h1 := b4 (c 1)
  have e2 : packK (chs 3) c 2 = 4096 * bitsI (c 0) 4 + 256 * bitsI (c 1) 4 := by
    rw [pack_step _ c 1 4 8 1 rfl (by decide), e1, or_hi 12 (by omega) (by omega) (by omega) (by omega) (by omega)]
    omega
  have h2 := b4 (c 2)
  have e3 : packK (chs 3) c 3 = 4096 * bitsI (c 0) 4 + 256 * bitsI (c 1) 4 + 16 * bitsI (c 2) 4 := by
    rw [pack_step _ c 2 4 4 2 rfl (by decide), e2, or_hi 8 (by omega) (by omega) (by omega) (by omega) (by omega)]
    omega
  have h3 := b4 (c 3)
  have e4 : packK (chs 3) c 4 = 4096 * bitsI (c 0) 4 + 256 * bitsI (c 1) 4 + 16 * bitsI (c 2) 4 + bitsI (c 3) 4 := by
    rw [pack_step _ c 3 4 0 3 rfl (by decide), e3, or_hi 4 (by omega) (by omega) (by omega) (by omega) (by omega)]
    omega
  exact e4
theorem pack4 (c : Nat → Int) : packN 4 c = 2048 * bitsI (c 0) 5 + 64 * bitsI (c 1) 5 + 2 * bitsI (c 2) 5 + bitsI (c 3) 1 := by
  have e0 : packK (chs 4) c 0 = 0 := rfl
  have h0 := b5 (c 0)
  have e1 : packK (chs 4) c 1 = 2048 * bitsI (c 0) 5 := by
    rw [pack_step _ c 0 5 11 0 rfl (by decide), e0, or_lo 0 (by omega) (by omega) (by omega) (by omega) (by omega)]
    omega
  have h1 := b5 (c 1)
  have e2 : packK (chs 4) c 2 = 2048 * bitsI (c 0) 5 + 64 * bitsI (c 1) 5 := by
    rw [pack_step _ c 1 5 6 1 rfl (by decide), e1, or_hi 11 (by omega) (by omega) (by omega) (by omega) (by omega)]
    omega
  have h2 := b5 (c 2)
  have e3 : packK (chs 4) c 3 = 2048 * bitsI (c 0) 5 + 64 * bitsI (c 1) 5 + 2 * bitsI (c 2) 5 := by
    rw [pack_step _ c 2 5 1 2 rfl (by decide), e2, or_hi 6 (by omega) (by omega) (by omega) (by omega) (by omega)]
    omega
  have h3 := b1 (c 3)
  have e4 : packK (chs 4) c 4 = 2048 * bitsI (c 0) 5 + 64 * bitsI (c 1) 5 + 2 * bitsI (c 2) 5 + bitsI (c 3) 1 := by
    rw [pack_step _ c 3 1 0 3 rfl (by decide), e3, or_hi 1 (by omega) (by omega) (by omega) (by omega) (by omega)]
    omega
  exact e4
theorem pack5 (c : Nat → Int) : packN 5 c = bitsI (c 0) 8 := by
  have e0 : packK (chs 5) c 0 = 0 := rfl
  have h0 := b8 (c 0)
  have e1 : packK (chs 5) c 1 = bitsI (c 0) 8 := by
    rw [pack_step _ c 0 8 0 0 rfl (by decide), e0, or_lo 0 (by omega) (by omega) (by omega) (by omega) (by omega)]
    omega
  have e2 : packK (chs 5) c 2 = bitsI (c 0) 8 := by rw [pack_skip _ c 1 rfl, e1]
  have e3 : packK (chs 5) c 3 = bitsI (c 0) 8 := by rw [pack_skip _ c 2 rfl, e2]
  have e4 : packK (chs 5) c 4 = bitsI (c 0) 8 := by rw [pack_skip _ c 3 rfl, e3]
  exact e4
theorem pack6 (c : Nat → Int) : packN 6 c = bitsI (c 3) 8 := by
  have e0 : packK (chs 6) c 0 = 0 := rfl
  have h0 := b8 (c 3)
  have e1 : packK (chs 6) c 1 = bitsI (c 3) 8 := by
    rw [pack_step _ c 0 8 0 3 rfl (by decide), e0, or_lo 0 (by omega) (by omega) (by omega) (by omega) (by omega)]
    omega
  have e2 : packK (chs 6) c 2 = bitsI (c 3) 8 := by rw [pack_skip _ c 1 rfl, e1]
  have e3 : packK (chs 6) c 3 = bitsI (c 3) 8 := by rw [pack_skip _ c 2 rfl, e2]
  have e4 : packK (chs 6) c 4 = bitsI (c 3) 8 := by rw [pack_skip _ c 3 rfl, e3]
  exact e4
theorem pack7 (c : Nat → Int) : packN 7 c = bitsI (c 0) 8 + 256 * bitsI (c 3) 8 := by
  have e0 : packK (chs 7) c 0 = 0 := rfl
  have h0 := b8 (c 0)
  have e1 : packK (chs 7) c 1 = bitsI (c 0) 8 := by
    rw [pack_step _ c 0 8 0 0 rfl (by decide), e0, or_lo 0 (by omega) (by omega) (by omega) (by omega) (by omega)]
    omega
  have h1 := b8 (c 3)
  have e2 : packK (chs 7) c 2 = bitsI (c 0) 8 + 256 * bitsI (c 3) 8 := by
    rw [pack_step _ c 1 8 8 3 rfl (by decide), e1, or_lo 8 (by omega) (by omega) (by omega) (by omega) (by omega)]
    omega
  have e3 : packK (chs 7) c 3 = bitsI (c 0) 8 + 256 * bitsI (c 3) 8 := by rw [pack_skip _ c 2 rfl, e2]
  have e4 : packK (chs 7) c 4 = bitsI (c 0) 8 + 256 * bitsI (c 3) 8 := by rw [pack_skip _ c 3 rfl, e3]
  exact e4

theorem pack_bound (f : Nat) (c : Nat → Int) (h1 : 1 ≤ f) (h7 : f ≤ 7) : 0 ≤ packN f c ∧ packN f c < 4294967296 := by
  have a0 := b8 (c 0)
  have a1 := b8 (c 1)
  have a2 := b8 (c 2)
  have a3 := b8 (c 3)
  have d0 := b5 (c 0)
  have d1 := b5 (c 1)
  have d2 := b5 (c 2)
  have d3 := b1 (c 3)
  have e1 := b6 (c 1)
  have g0 := b4 (c 0)
  have g1 := b4 (c 1)
  have g2 := b4 (c 2)
  have g3 := b4 (c 3)
  rcases seven h1 h7 with rfl | rfl | rfl | rfl | rfl | rfl | rfl
  · rw [pack1]; omega
  · rw [pack2]; omega
  · rw [pack3]; omega
  · rw [pack4]; omega
  · rw [pack5]; omega
  · rw [pack6]; omega
  · rw [pack7]; omega

/-- The colour of the bytes whose number is x. -/
def colN (f : Nat) (x : Int) : Nat → Int := colK (opq f) (chs f) x 4

theorem colour_any (f : Nat) (ao : Option Addr) (cap : Nat) (xs : List Int) (w : World) (h1 : 1 ≤ f) (h7 : f ≤ 7) (hr : Row .u8 w (.slice ao xs.length cap) xs) (hB : Byt xs) (hl : xs.length = siz f) :
    Calls Try.prog 48 #[.agg (layF f), .slice ao xs.length cap] w fun e w' => e = .returned (.agg #[.int .i32 (colN f (numOf xs) 0), .int .i32 (colN f (numOf xs) 1), .int .i32 (colN f (numOf xs) 2), .int .i32 (colN f (numOf xs) 3)]) ∧ Ext w w' :=
  colour_lay f (siz f) (opq f) (chs f) ao cap xs w (chs_ok h1 h7) (chs_up h1 h7) hr hB (by rw [hl]; exact siz_three h1 h7)
end Go.Proofs.Ytadajaoidhbmgaa
