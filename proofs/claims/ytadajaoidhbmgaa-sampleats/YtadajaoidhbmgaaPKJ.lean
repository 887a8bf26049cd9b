/- Several texts in one. -/
import Derived.Test.YtadajaoidhbmgaaPH
import Derived.Test.YtadajaoidhbmgaaW7
import Derived.Test.YtadajaoidhbmgaaW8
import Derived.Deep.RegionHeld3
/-
  Pixels: the walk of the document's Pack. What the dump lacks is left out.
-/
namespace Go.Proofs.Ytadajaoidhbmgaa
open Go.RowKit

/-- The widths of the channels of a number of 16 bits. -/
def wid : Nat → Nat → Nat
  | 2, 0 => 5
  | 2, 1 => 6
  | 2, 2 => 5
  | 3, 0 => 4
  | 3, 1 => 4
  | 3, 2 => 4
  | 3, 3 => 4
  | 4, 0 => 5
  | 4, 1 => 5
  | 4, 2 => 5
  | 4, 3 => 1
  | _, _ => 0
/-- The cells of four widths. -/
def widA (W : Nat → Nat) : Array Value := #[.int .i64 (W 0 : Int), .int .i64 (W 1 : Int), .int .i64 (W 2 : Int), .int .i64 (W 3 : Int)]

theorem widths_any (f : Nat) (w : World) (h2 : 2 ≤ f) (h4 : f ≤ 4) :
    Calls Try.prog 52 #[.int .i64 (f : Int)] w fun e w' => e = .returned (.agg (widA (wid f))) ∧ Ext w w' := by
  have X : Hid (Ext w (w.alloc (.cells #[.int .i64 0, .int .i64 0, .int .i64 0, .int .i64 0] 84))) := (Ext.refl w).alloc _
  rcases (by omega : f = 2 ∨ f = 3 ∨ f = 4) with rfl | rfl | rfl
  all_goals
    go_enter Try.func52, Try.ntmps52
    go_wp2
  · refine bodyPost_ret (v := .agg (widA (wid 2))) (by simp [results, Try.results52, go_sem, widA, wid]) rfl ⟨rfl, (Ext.refl w).alloc _⟩
  · refine bodyPost_ret (v := .agg (widA (wid 3))) (by simp [results, Try.results52, go_sem, widA, wid]) rfl ⟨rfl, (Ext.refl w).alloc _⟩
  · refine bodyPost_ret (v := .agg (widA (wid 4))) (by simp [results, Try.results52, go_sem, widA, wid]) rfl ⟨rfl, (Ext.refl w).alloc _⟩

/-- The document's number of the first k channels. -/
def refX (W : Nat → Nat) (c : Nat → Int) : Nat → Int
  | 0 => 0
  | k + 1 => if 0 < W k then refX W c k * (fullI (W k) + 1) + bitsI (c k) (W k) else refX W c k

theorem refX_step (W : Nat → Nat) (c : Nat → Int) (k : Nat) (b : Nat) (h : W k = b) (hb : 0 < b) : refX W c (k + 1) = refX W c k * (fullI b + 1) + bitsI (c k) b := by
  subst h
  exact if_pos hb
theorem refX_skip (W : Nat → Nat) (c : Nat → Int) (k : Nat) (h : W k = 0) : refX W c (k + 1) = refX W c k := if_neg (by omega)

theorem refX2 (c : Nat → Int) : refX (wid 2) c 4 = packN 2 c ∧ ∀ k, k ≤ 4 → 0 ≤ refX (wid 2) c k ∧ refX (wid 2) c k ≤ 65535 := by
  have h0 := b5 (c 0)
  have h1 := b6 (c 1)
  have h2 := b5 (c 2)
  have e0 : refX (wid 2) c 0 = 0 := rfl
  have e1 : refX (wid 2) c 1 = bitsI (c 0) 5 := by rw [refX_step _ c 0 5 rfl (by decide), e0]; simp
  have e2 : refX (wid 2) c 2 = bitsI (c 0) 5 * 64 + bitsI (c 1) 6 := by rw [refX_step _ c 1 6 rfl (by decide), e1]; rfl
  have e3 : refX (wid 2) c 3 = (bitsI (c 0) 5 * 64 + bitsI (c 1) 6) * 32 + bitsI (c 2) 5 := by rw [refX_step _ c 2 5 rfl (by decide), e2]; rfl
  have e4 : refX (wid 2) c 4 = (bitsI (c 0) 5 * 64 + bitsI (c 1) 6) * 32 + bitsI (c 2) 5 := by rw [refX_skip _ c 3 rfl, e3]
  refine ⟨by rw [e4, pack2]; omega, fun k hk => ?_⟩
  rcases (by omega : k = 0 ∨ k = 1 ∨ k = 2 ∨ k = 3 ∨ k = 4) with rfl | rfl | rfl | rfl | rfl
  · rw [e0]; omega
  · rw [e1]; omega
  · rw [e2]; omega
  · rw [e3]; omega
  · rw [e4]; omega
theorem refX3 (c : Nat → Int) : refX (wid 3) c 4 = packN 3 c ∧ ∀ k, k ≤ 4 → 0 ≤ refX (wid 3) c k ∧ refX (wid 3) c k ≤ 65535 := by
  have h0 := b4 (c 0)
  have h1 := b4 (c 1)
  have h2 := b4 (c 2)
  have h3 := b4 (c 3)
  have e0 : refX (wid 3) c 0 = 0 := rfl
  have e1 : refX (wid 3) c 1 = bitsI (c 0) 4 := by rw [refX_step _ c 0 4 rfl (by decide), e0]; simp
  have e2 : refX (wid 3) c 2 = bitsI (c 0) 4 * 16 + bitsI (c 1) 4 := by rw [refX_step _ c 1 4 rfl (by decide), e1]; rfl
  have e3 : refX (wid 3) c 3 = (bitsI (c 0) 4 * 16 + bitsI (c 1) 4) * 16 + bitsI (c 2) 4 := by rw [refX_step _ c 2 4 rfl (by decide), e2]; rfl
  have e4 : refX (wid 3) c 4 = ((bitsI (c 0) 4 * 16 + bitsI (c 1) 4) * 16 + bitsI (c 2) 4) * 16 + bitsI (c 3) 4 := by rw [refX_step _ c 3 4 rfl (by decide), e3]; rfl
  refine ⟨by rw [e4, pack3]; omega, fun k hk => ?_⟩
  rcases (by omega : k = 0 ∨ k = 1 ∨ k = 2 ∨ k = 3 ∨ k = 4) with rfl | rfl | rfl | rfl | rfl
  · rw [e0]; omega
  · rw [e1]; omega
  · rw [e2]; omega
  · rw [e3]; omega
  · rw [e4]; omega
theorem refX4 (c : Nat → Int) : refX (wid 4) c 4 = packN 4 c ∧ ∀ k, k ≤ 4 → 0 ≤ refX (wid 4) c k ∧ refX (wid 4) c k ≤ 65535 := by
  have h0 := b5 (c 0)
  have h1 := b5 (c 1)
  have h2 := b5 (c 2)
  have h3 := b1 (c 3)
  have e0 : refX (wid 4) c 0 = 0 := rfl
  have e1 : refX (wid 4) c 1 = bitsI (c 0) 5 := by rw [refX_step _ c 0 5 rfl (by decide), e0]; simp
  have e2 : refX (wid 4) c 2 = bitsI (c 0) 5 * 32 + bitsI (c 1) 5 := by rw [refX_step _ c 1 5 rfl (by decide), e1]; rfl
  have e3 : refX (wid 4) c 3 = (bitsI (c 0) 5 * 32 + bitsI (c 1) 5) * 32 + bitsI (c 2) 5 := by rw [refX_step _ c 2 5 rfl (by decide), e2]; rfl
  have e4 : refX (wid 4) c 4 = ((bitsI (c 0) 5 * 32 + bitsI (c 1) 5) * 32 + bitsI (c 2) 5) * 2 + bitsI (c 3) 1 := by rw [refX_step _ c 3 1 rfl (by decide), e3]; rfl
  refine ⟨by rw [e4, pack4]; omega, fun k hk => ?_⟩
  rcases (by omega : k = 0 ∨ k = 1 ∨ k = 2 ∨ k = 3 ∨ k = 4) with rfl | rfl | rfl | rfl | rfl
  · rw [e0]; omega
  · rw [e1]; omega
  · rw [e2]; omega
  · rw [e3]; omega
  · rw [e4]; omega
theorem refX_all (f : Nat) (c : Nat → Int) (h2 : 2 ≤ f) (h4 : f ≤ 4) : refX (wid f) c 4 = packN f c ∧ ∀ k, k ≤ 4 → 0 ≤ refX (wid f) c k ∧ refX (wid f) c k ≤ 65535 := by
  rcases (by omega : f = 2 ∨ f = 3 ∨ f = 4) with rfl | rfl | rfl
  · exact refX2 c
  · exact refX3 c
  · exact refX4 c
theorem wid_le (f k : Nat) (h2 : 2 ≤ f) (h4 : f ≤ 4) (hk : k < 4) : wid f k ≤ 16 := by
  rcases (by omega : f = 2 ∨ f = 3 ∨ f = 4) with rfl | rfl | rfl <;> rcases (by omega : k = 0 ∨ k = 1 ∨ k = 2 ∨ k = 3) with rfl | rfl | rfl | rfl <;> decide
theorem Blk.wid {w : World} {b : Nat} {W : Nat → Nat} {t : TypeId} (h : Blk w b (widA W) t) (k : Nat) (hk : k < 4) : w.cell? ⟨b, k, none⟩ = some (.int .i64 (W k : Int)) := by
  refine h.cell ?_
  rcases (by omega : k = 0 ∨ k = 1 ∨ k = 2 ∨ k = 3) with rfl | rfl | rfl | rfl <;> rfl
theorem size63 : (Try.prog.info? 84).map (·.size) = some 4 := by kernel_rfl
theorem widA_one (W : Nat → Nat) : (widA W).all (·.oneCell') = true := by simp [widA, Value.oneCell']

theorem pk_16 (f : Nat) (c : Nat → Int) (h2 : 2 ≤ f) (h4 : f ≤ 4) : pk f c = low (packN f c) 2 ∧ siz f = 2 := by
  rcases (by omega : f = 2 ∨ f = 3 ∨ f = 4) with rfl | rfl | rfl <;> exact ⟨rfl, rfl⟩

end Go.Proofs.Ytadajaoidhbmgaa

/-
  Pixels: the walk of the document's Unpack.
-/
namespace Go.Proofs.Ytadajaoidhbmgaa
open Go.RowKit

theorem col1 (x : Int) : colN 1 x 0 = numI (x / 2 ^ 0 % 2 ^ 8) 8 ∧ colN 1 x 1 = numI (x / 2 ^ 8 % 2 ^ 8) 8 ∧ colN 1 x 2 = numI (x / 2 ^ 16 % 2 ^ 8) 8 ∧ colN 1 x 3 = numI (x / 2 ^ 24 % 2 ^ 8) 8 := ⟨rfl, rfl, rfl, rfl⟩
theorem col2 (x : Int) : colN 2 x 0 = numI (x / 2 ^ 11 % 2 ^ 5) 5 ∧ colN 2 x 1 = numI (x / 2 ^ 5 % 2 ^ 6) 6 ∧ colN 2 x 2 = numI (x / 2 ^ 0 % 2 ^ 5) 5 ∧ colN 2 x 3 = 65536 := ⟨rfl, rfl, rfl, rfl⟩
theorem col3 (x : Int) : colN 3 x 0 = numI (x / 2 ^ 12 % 2 ^ 4) 4 ∧ colN 3 x 1 = numI (x / 2 ^ 8 % 2 ^ 4) 4 ∧ colN 3 x 2 = numI (x / 2 ^ 4 % 2 ^ 4) 4 ∧ colN 3 x 3 = numI (x / 2 ^ 0 % 2 ^ 4) 4 := ⟨rfl, rfl, rfl, rfl⟩
theorem col4 (x : Int) : colN 4 x 0 = numI (x / 2 ^ 11 % 2 ^ 5) 5 ∧ colN 4 x 1 = numI (x / 2 ^ 6 % 2 ^ 5) 5 ∧ colN 4 x 2 = numI (x / 2 ^ 1 % 2 ^ 5) 5 ∧ colN 4 x 3 = numI (x / 2 ^ 0 % 2 ^ 1) 1 := ⟨rfl, rfl, rfl, rfl⟩
theorem col5 (x : Int) : colN 5 x 0 = numI (x / 2 ^ 0 % 2 ^ 8) 8 ∧ colN 5 x 1 = numI (x / 2 ^ 0 % 2 ^ 8) 8 ∧ colN 5 x 2 = numI (x / 2 ^ 0 % 2 ^ 8) 8 ∧ colN 5 x 3 = 65536 := ⟨rfl, rfl, rfl, rfl⟩
theorem col6 (x : Int) : colN 6 x 0 = 0 ∧ colN 6 x 1 = 0 ∧ colN 6 x 2 = 0 ∧ colN 6 x 3 = numI (x / 2 ^ 0 % 2 ^ 8) 8 := ⟨rfl, rfl, rfl, rfl⟩
theorem col7 (x : Int) : colN 7 x 0 = numI (x / 2 ^ 0 % 2 ^ 8) 8 ∧ colN 7 x 1 = numI (x / 2 ^ 0 % 2 ^ 8) 8 ∧ colN 7 x 2 = numI (x / 2 ^ 0 % 2 ^ 8) 8 ∧ colN 7 x 3 = numI (x / 2 ^ 8 % 2 ^ 8) 8 := ⟨rfl, rfl, rfl, rfl⟩

theorem wrapu {x : Int} (h0 : 0 ≤ x) (h1 : x ≤ 255) : IntKind.u32.wrap x = x := by
  simp only [IntKind.wrap, IntKind.bits, IntKind.signed, Bool.false_and]
  simp
  omega
theorem full8 : fullI 8 = 255 := by decide

set_option maxHeartbeats 2000000 in
theorem refUnpack_5 (b off cap : Nat) (x : Int) (w : World) (hc : w.cell? ⟨b, off, none⟩ = some (.int .u8 x)) (h0 : 0 ≤ x) (h1 : x ≤ 255) :
    Calls Try.prog 38 #[.int .i64 5, .slice (some ⟨b, off, none⟩) 1 cap] w fun e w' => e = .returned (.agg #[.int .i32 (colN 5 x 0), .int .i32 (colN 5 x 1), .int .i32 (colN 5 x 2), .int .i32 (colN 5 x 3)]) ∧ Ext w w' := by
  have hb := World.block_lt_of_cell? w _ hc
  have hc2 : ∀ o, (w.alloc o).cell? ⟨b, off, none⟩ = some (.int .u8 x) := fun o => by rw [World.cell?_of_block (w := w) (heap_alloc_old w o hb)]; exact hc
  obtain ⟨k0, k1, k2, k3⟩ := col5 x
  have e : x / 2 ^ 0 % 2 ^ 8 = x := by omega
  rw [e] at k0 k1 k2
  have K := hide (And.intro k0 (And.intro k1 (And.intro k2 k3)))
  clear k0 k1 k2 k3 e hc
  go_enter Try.func38, Try.ntmps38
  go_wp2_with fail
  refine (refNumber_any x 8 _ (by decide) (by decide) h0 (by rw [full8]; exact h1)).mono ?_
  rintro e w1 ⟨rfl, rfl⟩
  go_wp2
  refine bodyPost_ret (v := .agg #[.int .i32 (colN 5 x 0), .int .i32 (colN 5 x 1), .int .i32 (colN 5 x 2), .int .i32 (colN 5 x 3)]) (by simp [results, Try.results38, go_sem, (unhide K).1, (unhide K).2.1, (unhide K).2.2.1, (unhide K).2.2.2]) rfl ⟨rfl, (Ext.refl w).alloc _⟩

set_option maxHeartbeats 2000000 in
theorem refUnpack_6 (b off cap : Nat) (x : Int) (w : World) (hc : w.cell? ⟨b, off, none⟩ = some (.int .u8 x)) (h0 : 0 ≤ x) (h1 : x ≤ 255) :
    Calls Try.prog 38 #[.int .i64 6, .slice (some ⟨b, off, none⟩) 1 cap] w fun e w' => e = .returned (.agg #[.int .i32 (colN 6 x 0), .int .i32 (colN 6 x 1), .int .i32 (colN 6 x 2), .int .i32 (colN 6 x 3)]) ∧ Ext w w' := by
  have hb := World.block_lt_of_cell? w _ hc
  have hc2 : ∀ o, (w.alloc o).cell? ⟨b, off, none⟩ = some (.int .u8 x) := fun o => by rw [World.cell?_of_block (w := w) (heap_alloc_old w o hb)]; exact hc
  obtain ⟨k0, k1, k2, k3⟩ := col6 x
  have e : x / 2 ^ 0 % 2 ^ 8 = x := by omega
  rw [e] at k3
  have K := hide (And.intro k0 (And.intro k1 (And.intro k2 k3)))
  clear k0 k1 k2 k3 e hc
  go_enter Try.func38, Try.ntmps38
  go_wp2_with fail
  refine (refNumber_any x 8 _ (by decide) (by decide) h0 (by rw [full8]; exact h1)).mono ?_
  rintro e w1 ⟨rfl, rfl⟩
  go_wp2
  refine bodyPost_ret (v := .agg #[.int .i32 (colN 6 x 0), .int .i32 (colN 6 x 1), .int .i32 (colN 6 x 2), .int .i32 (colN 6 x 3)]) (by simp [results, Try.results38, go_sem, (unhide K).1, (unhide K).2.1, (unhide K).2.2.1, (unhide K).2.2.2]) rfl ⟨rfl, (Ext.refl w).alloc _⟩

set_option maxHeartbeats 2000000 in
theorem refUnpack_7 (b off cap : Nat) (x y : Int) (w : World) (hc : w.cell? ⟨b, off, none⟩ = some (.int .u8 x)) (hd : w.cell? ⟨b, off + 1, none⟩ = some (.int .u8 y)) (h0 : 0 ≤ x) (h1 : x ≤ 255) (h2 : 0 ≤ y) (h3 : y ≤ 255) :
    Calls Try.prog 38 #[.int .i64 7, .slice (some ⟨b, off, none⟩) 2 cap] w fun e w' => e = .returned (.agg #[.int .i32 (colN 7 (x + 256 * y) 0), .int .i32 (colN 7 (x + 256 * y) 1), .int .i32 (colN 7 (x + 256 * y) 2), .int .i32 (colN 7 (x + 256 * y) 3)]) ∧ Ext w w' := by
  have hb := World.block_lt_of_cell? w _ hc
  have hc2 : ∀ o, (w.alloc o).cell? ⟨b, off, none⟩ = some (.int .u8 x) := fun o => by rw [World.cell?_of_block (w := w) (heap_alloc_old w o hb)]; exact hc
  have hb2 := World.block_lt_of_cell? w _ hd
  have hd2 : ∀ o, (w.alloc o).cell? ⟨b, off + 1, none⟩ = some (.int .u8 y) := fun o => by rw [World.cell?_of_block (w := w) (heap_alloc_old w o hb2)]; exact hd
  obtain ⟨k0, k1, k2, k3⟩ := col7 (x + 256 * y)
  have e : (x + 256 * y) / 2 ^ 0 % 2 ^ 8 = x := by omega
  have e2 : (x + 256 * y) / 2 ^ 8 % 2 ^ 8 = y := by omega
  rw [e] at k0 k1 k2
  rw [e2] at k3
  have K := hide (And.intro k0 (And.intro k1 (And.intro k2 k3)))
  clear k0 k1 k2 k3 e e2 hc hd
  go_enter Try.func38, Try.ntmps38
  go_wp2_with fail
  refine (refNumber_any x 8 _ (by decide) (by decide) h0 (by rw [full8]; exact h1)).mono ?_
  rintro e w1 ⟨rfl, rfl⟩
  go_wp2_with fail
  refine (refNumber_any y 8 _ (by decide) (by decide) h2 (by rw [full8]; exact h3)).mono ?_
  rintro e w1 ⟨rfl, rfl⟩
  go_wp2
  refine bodyPost_ret (v := .agg #[.int .i32 (colN 7 (x + 256 * y) 0), .int .i32 (colN 7 (x + 256 * y) 1), .int .i32 (colN 7 (x + 256 * y) 2), .int .i32 (colN 7 (x + 256 * y) 3)]) (by simp [results, Try.results38, go_sem, (unhide K).1, (unhide K).2.1, (unhide K).2.2.1, (unhide K).2.2.2]) rfl ⟨rfl, (Ext.refl w).alloc _⟩

set_option maxHeartbeats 4000000 in
theorem refUnpack_1 (b off cap : Nat) (x y z u : Int) (w : World) (hx : w.cell? ⟨b, off, none⟩ = some (.int .u8 x)) (hy : w.cell? ⟨b, off + 1, none⟩ = some (.int .u8 y)) (hz : w.cell? ⟨b, off + 2, none⟩ = some (.int .u8 z)) (hu : w.cell? ⟨b, off + 3, none⟩ = some (.int .u8 u))
    (x0 : 0 ≤ x) (x1 : x ≤ 255) (y0 : 0 ≤ y) (y1 : y ≤ 255) (z0 : 0 ≤ z) (z1 : z ≤ 255) (u0 : 0 ≤ u) (u1 : u ≤ 255) :
    Calls Try.prog 38 #[.int .i64 1, .slice (some ⟨b, off, none⟩) 4 cap] w fun e w' => e = .returned (.agg #[.int .i32 (colN 1 (x + 256 * (y + 256 * (z + 256 * u))) 0), .int .i32 (colN 1 (x + 256 * (y + 256 * (z + 256 * u))) 1), .int .i32 (colN 1 (x + 256 * (y + 256 * (z + 256 * u))) 2), .int .i32 (colN 1 (x + 256 * (y + 256 * (z + 256 * u))) 3)]) ∧ Ext w w' := by
  have hb := World.block_lt_of_cell? w _ hx
  have hE : ∀ o, Ext w (w.alloc o) := fun o => (Ext.refl w).alloc o
  have HC : Hid (∀ w', Ext w w' → w'.cell? ⟨b, off, none⟩ = some (.int .u8 x) ∧ w'.cell? ⟨b, off + 1, none⟩ = some (.int .u8 y) ∧ w'.cell? ⟨b, off + 2, none⟩ = some (.int .u8 z) ∧ w'.cell? ⟨b, off + 3, none⟩ = some (.int .u8 u)) := fun w' h =>
    ⟨(h.cell (p := ⟨b, off, none⟩) hb).trans hx, (h.cell (p := ⟨b, off + 1, none⟩) hb).trans hy, (h.cell (p := ⟨b, off + 2, none⟩) hb).trans hz, (h.cell (p := ⟨b, off + 3, none⟩) hb).trans hu⟩
  obtain ⟨d0, d1, d2, d3⟩ := unhide HC _ (hE (.cells #[.int .i32 0, .int .i32 0, .int .i32 0, .int .i32 0] 30))
  obtain ⟨k0, k1, k2, k3⟩ := col1 (x + 256 * (y + 256 * (z + 256 * u)))
  rw [show (x + 256 * (y + 256 * (z + 256 * u))) / 2 ^ 0 % 2 ^ 8 = x by omega] at k0
  rw [show (x + 256 * (y + 256 * (z + 256 * u))) / 2 ^ 8 % 2 ^ 8 = y by omega] at k1
  rw [show (x + 256 * (y + 256 * (z + 256 * u))) / 2 ^ 16 % 2 ^ 8 = z by omega] at k2
  rw [show (x + 256 * (y + 256 * (z + 256 * u))) / 2 ^ 24 % 2 ^ 8 = u by omega] at k3
  have K := hide (And.intro k0 (And.intro k1 (And.intro k2 k3)))
  clear k0 k1 k2 k3 hx hy hz hu hE
  have wx := wrapu x0 x1
  have wy := wrapu y0 y1
  have wz := wrapu z0 z1
  have wu := wrapu u0 u1
  go_enter Try.func38, Try.ntmps38
  go_wp2
  go_region_held3 (fun w' => w'.cell? ⟨b, off, none⟩ = some (.int .u8 x) ∧ w'.cell? ⟨b, off + 1, none⟩ = some (.int .u8 y) ∧ w'.cell? ⟨b, off + 2, none⟩ = some (.int .u8 z) ∧ w'.cell? ⟨b, off + 3, none⟩ = some (.int .u8 u)) (first | exact unhide HC _ (((Ext.refl w).alloc _).drew) | go_keep) (first | (go_at_call_of 50 (Value.int IntKind.u32 x); refine (refNumber_any x 8 _ (by decide) (by decide) x0 (by rw [full8]; exact x1)).mono ?_; rintro e w' ⟨rfl, rfl⟩) | (go_at_call_of 50 (Value.int IntKind.u32 y); refine (refNumber_any y 8 _ (by decide) (by decide) y0 (by rw [full8]; exact y1)).mono ?_; rintro e w' ⟨rfl, rfl⟩) | (go_at_call_of 50 (Value.int IntKind.u32 z); refine (refNumber_any z 8 _ (by decide) (by decide) z0 (by rw [full8]; exact z1)).mono ?_; rintro e w' ⟨rfl, rfl⟩) | (go_at_call_of 50 (Value.int IntKind.u32 u); refine (refNumber_any u 8 _ (by decide) (by decide) u0 (by rw [full8]; exact u1)).mono ?_; rintro e w' ⟨rfl, rfl⟩))
  go_wp2
  refine bodyPost_ret (v := .agg #[.int .i32 (colN 1 (x + 256 * (y + 256 * (z + 256 * u))) 0), .int .i32 (colN 1 (x + 256 * (y + 256 * (z + 256 * u))) 1), .int .i32 (colN 1 (x + 256 * (y + 256 * (z + 256 * u))) 2), .int .i32 (colN 1 (x + 256 * (y + 256 * (z + 256 * u))) 3)]) (by simp [results, Try.results38, go_sem, (unhide K).1, (unhide K).2.1, (unhide K).2.2.1, (unhide K).2.2.2]) rfl ⟨rfl, ((Ext.refl w).alloc _).drew⟩

/-- What is left of the number, and what the document's loop has laid, behind j channels from the last on. -/
def refC (W : Nat → Nat) (x : Int) : Nat → Int × (Nat → Int)
  | 0 => (x, fun i => if i = 3 then 65536 else 0)
  | j + 1 => if 0 < W (3 - j) then ((refC W x j).1 / (fullI (W (3 - j)) + 1), fun i => if i = 3 - j then numI ((refC W x j).1 % (fullI (W (3 - j)) + 1)) (W (3 - j)) else (refC W x j).2 i) else refC W x j

theorem refC_bound (W : Nat → Nat) (hW : ∀ k, k < 4 → W k ≤ 16) (x : Int) (h0 : 0 ≤ x) (h1 : x ≤ 65535) : ∀ j, j ≤ 4 → 0 ≤ (refC W x j).1 ∧ (refC W x j).1 ≤ 65535
  | 0, _ => ⟨h0, h1⟩
  | j + 1, hj => by
    have ih := refC_bound W hW x h0 h1 j (by omega)
    have hm := full_nonneg (hW (3 - j) (by omega))
    unfold refC
    split
    · refine ⟨Int.ediv_nonneg ih.1 (by omega), ?_⟩
      exact Int.le_trans (Int.ediv_le_self _ ih.1) ih.2
    · exact ih

theorem p5 : fullI 5 + 1 = 32 := by decide
theorem p6 : fullI 6 + 1 = 64 := by decide
theorem p4 : fullI 4 + 1 = 16 := by decide
theorem p1 : fullI 1 + 1 = 2 := by decide
theorem refC2 (x : Int) (i : Nat) (hi : i < 4) : (refC (wid 2) x 4).2 i = colN 2 x i := by
  obtain ⟨k0, k1, k2, k3⟩ := col2 x
  rcases (by omega : i = 0 ∨ i = 1 ∨ i = 2 ∨ i = 3) with rfl | rfl | rfl | rfl
  · rw [k0, show (refC (wid 2) x 4).2 0 = numI (x / (fullI 5 + 1) / (fullI 6 + 1) % (fullI 5 + 1)) 5 from rfl, p5, p6]
    congr 1 <;> omega
  · rw [k1, show (refC (wid 2) x 4).2 1 = numI (x / (fullI 5 + 1) % (fullI 6 + 1)) 6 from rfl, p5, p6]
    congr 1 <;> omega
  · rw [k2, show (refC (wid 2) x 4).2 2 = numI (x % (fullI 5 + 1)) 5 from rfl, p5]
    congr 1 <;> omega
  · rw [k3]
    rfl
theorem refC3 (x : Int) (i : Nat) (hi : i < 4) : (refC (wid 3) x 4).2 i = colN 3 x i := by
  obtain ⟨k0, k1, k2, k3⟩ := col3 x
  rcases (by omega : i = 0 ∨ i = 1 ∨ i = 2 ∨ i = 3) with rfl | rfl | rfl | rfl
  · rw [k0, show (refC (wid 3) x 4).2 0 = numI (x / (fullI 4 + 1) / (fullI 4 + 1) / (fullI 4 + 1) % (fullI 4 + 1)) 4 from rfl, p4]
    congr 1 <;> omega
  · rw [k1, show (refC (wid 3) x 4).2 1 = numI (x / (fullI 4 + 1) / (fullI 4 + 1) % (fullI 4 + 1)) 4 from rfl, p4]
    congr 1 <;> omega
  · rw [k2, show (refC (wid 3) x 4).2 2 = numI (x / (fullI 4 + 1) % (fullI 4 + 1)) 4 from rfl, p4]
    congr 1 <;> omega
  · rw [k3, show (refC (wid 3) x 4).2 3 = numI (x % (fullI 4 + 1)) 4 from rfl, p4]
    congr 1 <;> omega
theorem refC4 (x : Int) (i : Nat) (hi : i < 4) : (refC (wid 4) x 4).2 i = colN 4 x i := by
  obtain ⟨k0, k1, k2, k3⟩ := col4 x
  rcases (by omega : i = 0 ∨ i = 1 ∨ i = 2 ∨ i = 3) with rfl | rfl | rfl | rfl
  · rw [k0, show (refC (wid 4) x 4).2 0 = numI (x / (fullI 1 + 1) / (fullI 5 + 1) / (fullI 5 + 1) % (fullI 5 + 1)) 5 from rfl, p1, p5]
    congr 1 <;> omega
  · rw [k1, show (refC (wid 4) x 4).2 1 = numI (x / (fullI 1 + 1) / (fullI 5 + 1) % (fullI 5 + 1)) 5 from rfl, p1, p5]
    congr 1 <;> omega
  · rw [k2, show (refC (wid 4) x 4).2 2 = numI (x / (fullI 1 + 1) % (fullI 5 + 1)) 5 from rfl, p1, p5]
    congr 1 <;> omega
  · rw [k3, show (refC (wid 4) x 4).2 3 = numI (x % (fullI 1 + 1)) 1 from rfl, p1]
    congr 1 <;> omega
theorem refC_all (f : Nat) (x : Int) (h2 : 2 ≤ f) (h4 : f ≤ 4) (i : Nat) (hi : i < 4) : (refC (wid f) x 4).2 i = colN f x i := by
  rcases (by omega : f = 2 ∨ f = 3 ∨ f = 4) with rfl | rfl | rfl
  · exact refC2 x i hi
  · exact refC3 x i hi
  · exact refC4 x i hi
end Go.Proofs.Ytadajaoidhbmgaa

/-
  Pixels: the walk of the document's Unpack, the formats of 16 bits; and all of them.
-/
namespace Go.Proofs.Ytadajaoidhbmgaa
open Go.RowKit
set_option maxRecDepth 10000

theorem wrapm {x : Int} (h0 : 0 ≤ x) (h1 : x ≤ 65535) : IntKind.u32.wrap x = x := by
  simp only [IntKind.wrap, IntKind.bits, IntKind.signed, Bool.false_and]
  simp
  omega
theorem vec_set (a : Nat → Int) (i : Nat) (n : Int) (hi : i < 4) : (#[.int .i32 (a 0), .int .i32 (a 1), .int .i32 (a 2), .int .i32 (a 3)] : Array Value).setIfInBounds i (.int .i32 n) = #[.int .i32 ((fun k => if k = i then n else a k) 0), .int .i32 ((fun k => if k = i then n else a k) 1), .int .i32 ((fun k => if k = i then n else a k) 2), .int .i32 ((fun k => if k = i then n else a k) 3)] := by
  rcases (by omega : i = 0 ∨ i = 1 ∨ i = 2 ∨ i = 3) with rfl | rfl | rfl | rfl <;> simp
theorem Blk.free4 {w : World} {b : Nat} {cs : Array Value} {t : TypeId} (h : Blk w b cs t) : w.frozen? ⟨b, 0, none⟩ = false ∧ w.frozen? ⟨b, 1, none⟩ = false ∧ w.frozen? ⟨b, 2, none⟩ = false ∧ w.frozen? ⟨b, 3, none⟩ = false :=
  ⟨h.free 0, h.free 1, h.free 2, h.free 3⟩

theorem refC_pos (W : Nat → Nat) (x : Int) (i : Nat) (hi : i < 4) (h : 0 < W i) : refC W x (4 - i) = ((refC W x (3 - i)).1 / (fullI (W i) + 1), fun k => if k = i then numI ((refC W x (3 - i)).1 % (fullI (W i) + 1)) (W i) else (refC W x (3 - i)).2 k) := by
  rw [show 4 - i = (3 - i) + 1 by omega]
  have e : 3 - (3 - i) = i := by omega
  rw [refC, e, if_pos h]
theorem refC_none (W : Nat → Nat) (x : Int) (i : Nat) (hi : i < 4) (h : ¬ 0 < W i) : refC W x (4 - i) = refC W x (3 - i) := by
  rw [show 4 - i = (3 - i) + 1 by omega]
  have e : 3 - (3 - i) = i := by omega
  rw [refC, e, if_neg h]

set_option maxHeartbeats 4000000 in
theorem refUnpack_16 (f : Nat) (ao : Option Addr) (cap : Nat) (xs : List Int) (w : World) (h2 : 2 ≤ f) (h4 : f ≤ 4) (hr : Row .u8 w (.slice ao xs.length cap) xs) (hB : Byt xs) (hl : xs.length = 2) :
    Calls Try.prog 38 #[.int .i64 (f : Int), .slice ao xs.length cap] w fun e w' => e = .returned (.agg #[.int .i32 (colN f (numOf xs) 0), .int .i32 (colN f (numOf xs) 1), .int .i32 (colN f (numOf xs) 2), .int .i32 (colN f (numOf xs) 3)]) ∧ Ext w w' := by
  have hb := numOf_le xs hB 2 (by omega)
  have f1 : ((f : Int) == 1) = false := by simp; omega
  have f5 : ((f : Int) == 5) = false := by simp; omega
  have f6 : ((f : Int) == 6) = false := by simp; omega
  have f7 : ((f : Int) == 7) = false := by simp; omega
  have HW : Hid (∀ k, k < 4 → wid f k ≤ 16) := fun k hk => wid_le f k h2 h4 hk
  have HA : Hid (∀ i, i < 4 → (refC (wid f) (numOf xs) 4).2 i = colN f (numOf xs) i) := fun i hi => refC_all f (numOf xs) h2 h4 i hi
  have HR := hide hr
  have HLn := hide hl
  clear hr hl
  go_enter Try.func38, Try.ntmps38
  go_wp2_with fail
  refine (numb_any _ xs _ ((unhide HR).ext ((Ext.refl w).alloc _)) (by have := unhide HLn; omega) hB).mono ?_
  rintro e w1 ⟨rfl, rfl⟩
  obtain ⟨x, hxe⟩ : ∃ x, x = numOf xs := ⟨_, rfl⟩
  have HXE := hide hxe
  rw [← hxe] at hb HA
  rw [← hxe]
  clear hxe
  have hx0 : 0 ≤ x := hb.1
  have hx1 : x ≤ 65535 := by have := hb.2; omega
  clear hb
  go_wp2_with fail
  refine (widths_any f _ h2 h4).mono ?_
  rintro e w1 ⟨rfl, hx⟩
  have D0 := hide (And.intro ((((Blk.at (w := w) (cs := #[.int .i32 0, .int .i32 0, .int .i32 0, .int .i32 0]) (t := 30) rfl).ext hx).alloc (.cells (widA (wid f)) 84)).alloc (.cells #[.int .i32 0, .int .i32 0, .int .i32 0, .int .i32 65536] 30)) (And.intro ((Blk.new w1 (widA (wid f)) 84).alloc (.cells #[.int .i32 0, .int .i32 0, .int .i32 0, .int .i32 65536] 30)) (And.intro (Blk.at (w := w1.alloc (.cells (widA (wid f)) 84)) (b := w1.heap.size + 1) (cs := #[.int .i32 0, .int .i32 0, .int .i32 0, .int .i32 65536]) (t := 30) (by simp)) (((((Ext.refl w).alloc _).trans hx).alloc (.cells (widA (wid f)) 84)).alloc (.cells #[.int .i32 0, .int .i32 0, .int .i32 0, .int .i32 65536] 30)))))
  have hw1 : w.heap.size < w1.heap.size := by have := hx.size; simp at this; omega
  clear hx
  have HBd := hide (refC_bound (wid f) (unhide HW) x hx0 hx1)
  generalize hWf : wid f = W at *
  clear hWf
  go_wp2_with (refine wpList_store_last rfl 84 (.tmp 8) (.tmp 73) rfl _ rfl (widA W) rfl 4 size63 rfl rfl (widA_one _) ?_)
  go_loopw [7, 10] (fun xv iv wr => ∃ k : Nat, k ≤ 4 ∧ iv = .int .i64 ((k : Int) - 1) ∧ xv = .int .i64 (refC W x (4 - k)).1 ∧ Blk wr w.heap.size #[.int .i32 0, .int .i32 0, .int .i32 0, .int .i32 0] 30 ∧ Blk wr w1.heap.size (widA W) 84 ∧ Blk wr (w1.heap.size + 1) #[.int .i32 ((refC W x (4 - k)).2 0), .int .i32 ((refC W x (4 - k)).2 1), .int .i32 ((refC W x (4 - k)).2 2), .int .i32 ((refC W x (4 - k)).2 3)] 30 ∧ Ext w wr) (fun _ iv _ => (intOf iv + 1).toNat)
  case atStart => exact ⟨4, by omega, rfl, rfl, (unhide D0).1, (unhide D0).2.1, (unhide D0).2.2.1, (unhide D0).2.2.2⟩
  case round =>
    obtain ⟨k, hk, hiv, rfl, hb0, hb1, hb2, hx⟩ := hrel
    have D := hide (And.intro hb0 (And.intro hb1 (And.intro hb2 hx)))
    clear hb0 hb1 hb2 hx D0
    by_cases h0 : k = 0
    · subst h0
      obtain rfl : _ = Value.int .i64 (-1) := hiv
      go_wp2_with (first
        | refine wpList_load_row rfl 30 (.tmp 9) rfl (w1.heap.size + 1) rfl 30 #[.int .i32 ((refC W x 4).2 0), .int .i32 ((refC W x 4).2 1), .int .i32 ((refC W x 4).2 2), .int .i32 ((refC W x 4).2 3)] (0, 0) _ (unhide D).2.2.1 Try.underlying30 rfl size35 ?_
        | refine wpList_store_row rfl 30 (.tmp 4) (.tmp 102) rfl w.heap.size #[.int .i32 ((refC W x 4).2 0), .int .i32 ((refC W x 4).2 1), .int .i32 ((refC W x 4).2 2), .int .i32 ((refC W x 4).2 3)] rfl rfl 30 _ (unhide D).1 size35 rfl (vec_one _) ?_)
      refine bodyPost_ret (v := .agg #[.int .i32 ((refC W x 4).2 0), .int .i32 ((refC W x 4).2 1), .int .i32 ((refC W x 4).2 2), .int .i32 ((refC W x 4).2 3)]) (results_cell_row Try.results38 _ _ w.heap.size 30 _ (0, 0) _ rfl (unhide D).1.row Try.underlying30 rfl size35) rfl ⟨?_, ext_row (unhide D).2.2.2 (Nat.le_refl _)⟩
      rw [unhide HA 0 (by omega), unhide HA 1 (by omega), unhide HA 2 (by omega), unhide HA 3 (by omega), unhide HXE]
    · obtain ⟨i, rfl⟩ : ∃ i, k = i + 1 := ⟨k - 1, by omega⟩
      obtain rfl : _ = Value.int .i64 (i : Int) := hiv.trans (by congr 1; omega)
      have hi4 : i < 4 := by omega
      have hii : (i : Int) < 4 := by omega
      rw [show 4 - (i + 1) = 3 - i by omega] at D ⊢
      have hwi := (unhide D).2.1.wid i hi4
      have hW := unhide HW i hi4
      have hm := full_nonneg hW
      have hX := unhide HBd (3 - i) (by omega)
      by_cases hpos : 0 < W i
      · have hposI : (0 : Int) < (W i : Int) := by omega
        have E := hide (refC_pos W x i hi4 hpos)
        have hq := Int.emod_nonneg (refC W x (3 - i)).1 (show fullI (W i) + 1 ≠ 0 by omega)
        have hq2 := Int.emod_lt_of_pos (refC W x (3 - i)).1 (show 0 < fullI (W i) + 1 by omega)
        have hwr := wrapm hq (by omega)
        have hz : (fullI (W i) + 1 == 0) = false := by simp; omega
        obtain ⟨n, HNn⟩ : ∃ n, Hid (numI ((refC W x (3 - i)).1 % (fullI (W i) + 1)) (W i) = n) := ⟨_, rfl⟩
        have hqm : (refC W x (3 - i)).1 % (fullI (W i) + 1) ≤ fullI (W i) := by omega
        have c2 := (unhide D).2.2.1.vec i hi4
        have fr2 := (unhide D).2.2.1.free i
        have s1 : ∀ v, (wr.setCell ⟨w1.heap.size + 1, i, none⟩ v).cell? ⟨w1.heap.size, i, none⟩ = some (.int .i64 (W i : Int)) := fun v => ((unhide D).2.1.other i v (by omega)).wid i hi4
        generalize (refC W x (3 - i)).1 = X at *
        obtain ⟨hX0, hX1⟩ := hX
        obtain ⟨m, HM⟩ : ∃ m, Hid (fullI (W i) = m) := ⟨_, rfl⟩
        rw [unhide HM] at hm hq hq2 hwr hz hqm
        obtain ⟨hm0, hm1⟩ := hm
        have hne : ¬ m + 1 = 0 := by omega
        have htm : X.tmod (m + 1) = X % (m + 1) := Int.tmod_eq_emod_of_nonneg hX0
        go_wp2
        refine wp_region_noPanic ?_
        refine wp_region_held_drew (S := fun w' => w'.cell? ⟨w1.heap.size, i, none⟩ = some (.int .i64 (W i : Int))) (by kernel_rfl) hwi (fun hHeld => ?_)
        refine wpAnyH_take (i := 0) (v := .int .i64 (i : Int)) rfl (by kernel_rfl) (by kernel_rfl) (by kernel_rfl) (fun _ _ _ h => h) (Or.inl ⟨by rfl, fun _ _ => rfl⟩) hHeld ?_
        refine wpAnyH_take (i := 1) (v := .int .i64 X) rfl (by kernel_rfl) (by kernel_rfl) (by kernel_rfl) (fun _ _ _ h => h) (Or.inl ⟨by rfl, fun _ _ => rfl⟩) hHeld ?_
        refine wpAnyH_take (i := 2) (v := .int .i64 (i : Int)) rfl (by kernel_rfl) (by kernel_rfl) (by kernel_rfl) (fun _ _ _ h => h) (Or.inl ⟨by rfl, fun _ _ => rfl⟩) hHeld ?_
        refine wpAnyH_take (i := 3) (v := .pointer (some ⟨w1.heap.size, i, none⟩)) rfl (by kernel_rfl) (by kernel_rfl) (by kernel_rfl) (fun _ _ _ h => h) (Or.inl ⟨by rfl, by (intro w' hSw; go_simp)⟩) hHeld ?_
        refine wpAnyH_take (i := 4) (v := .int .i64 (W i : Int)) rfl (by kernel_rfl) (by kernel_rfl) (by kernel_rfl) (fun _ _ _ h => h) (Or.inl ⟨by rfl, by (intro w' hSw; go_simp)⟩) hHeld ?_
        refine wpAnyH_take (i := 8) (v := .int .i64 (i : Int)) rfl (by kernel_rfl) (by kernel_rfl) (by kernel_rfl) (fun _ _ _ h => h) (Or.inl ⟨by rfl, fun _ _ => rfl⟩) hHeld ?_
        refine wpAnyH_take (i := 9) (v := .pointer (some ⟨w1.heap.size, i, none⟩)) rfl (by kernel_rfl) (by kernel_rfl) (by kernel_rfl) (fun _ _ _ h => h) (Or.inl ⟨by rfl, by (intro w' hSw; go_simp)⟩) hHeld ?_
        refine wpAnyH_take (i := 10) (v := .int .i64 (W i : Int)) rfl (by kernel_rfl) (by kernel_rfl) (by kernel_rfl) (fun _ _ _ h => h) (Or.inl ⟨by rfl, by (intro w' hSw; go_simp)⟩) hHeld ?_
        refine wpAnyH_ready (rs := [5]) (by kernel_rfl) (by simp) (AllReadyH.cons rfl (fun K hK => ?_) AllReadyH.nil)
        go_simp
        refine (power_any (W i) _ hW).mono ?_
        rintro e w3 ⟨rfl, rfl⟩
        rw [unhide HM]
        refine hK.out _ _ hHeld (fun _ => ?_)
        clear hK K
        refine wpAnyH_ready (rs := [6]) (by kernel_rfl) (by simp) (AllReadyH.cons rfl (fun K hK => ?_) AllReadyH.nil)
        go_simp
        refine hK.out _ _ hHeld (fun _ => ?_)
        clear hK K
        refine wpAnyH_ready (rs := [7]) (by kernel_rfl) (by simp) (AllReadyH.cons rfl (fun K hK => ?_) AllReadyH.nil)
        go_simp
        refine hK.out _ _ hHeld (fun _ => ?_)
        clear hK K
        refine wpAnyH_ready (rs := [11]) (by kernel_rfl) (by simp) (AllReadyH.cons rfl (fun K hK => ?_) AllReadyH.nil)
        go_simp
        refine (refNumber_any (X % (m + 1)) (W i) _ (by omega) hW hq (by rw [unhide HM]; exact hqm)).mono ?_
        rintro e w3 ⟨rfl, rfl⟩
        rw [← unhide HM, unhide HNn, unhide HM]
        refine hK.out _ _ hHeld (fun _ => ?_)
        clear hK K
        refine wpAnyH_ready (rs := [12]) (by kernel_rfl) (by simp) (AllReadyH.cons rfl (fun K hK => ?_) AllReadyH.nil)
        go_simp
        refine hK.out _ _ hHeld (fun _ => ?_)
        clear hK K
        refine wpAnyH_ready (rs := [13]) (by kernel_rfl) (by simp) (AllReadyH.cons rfl (fun K hK => ?_) AllReadyH.nil)
        go_simp
        refine hK.out _ _ (s1 _) (fun _ => ?_)
        clear hK K hHeld
        refine wpAnyH_done (by kernel_rfl) ?_ _
        refine NoPanic.normal ?_
        have D2 : Hid (Blk (wr.setCell ⟨w1.heap.size + 1, i, none⟩ (.int .i32 n)).drew w.heap.size #[.int .i32 0, .int .i32 0, .int .i32 0, .int .i32 0] 30 ∧ Blk (wr.setCell ⟨w1.heap.size + 1, i, none⟩ (.int .i32 n)).drew w1.heap.size (widA W) 84 ∧ Blk (wr.setCell ⟨w1.heap.size + 1, i, none⟩ (.int .i32 n)).drew (w1.heap.size + 1) #[.int .i32 ((fun k => if k = i then n else (refC W x (3 - i)).2 k) 0), .int .i32 ((fun k => if k = i then n else (refC W x (3 - i)).2 k) 1), .int .i32 ((fun k => if k = i then n else (refC W x (3 - i)).2 k) 2), .int .i32 ((fun k => if k = i then n else (refC W x (3 - i)).2 k) 3)] 30 ∧ Ext w (wr.setCell ⟨w1.heap.size + 1, i, none⟩ (.int .i32 n)).drew) := by
          refine ⟨(unhide D).1.other i _ (by omega), (unhide D).2.1.other i _ (by omega), ?_, (ext_set (unhide D).2.2.2 (by omega)).drew⟩
          have := (unhide D).2.2.1.set i (.int .i32 n)
          rw [vec_set _ i n hi4] at this
          exact this
        have hwi2 := (unhide D2).2.1.wid i hi4
        go_wp2_with fail
        refine (power_any (W i) _ hW).mono ?_
        rintro e w3 ⟨rfl, rfl⟩
        rw [unhide HM]
        rw [unhide HNn, unhide HM] at E
        go_wp2
        go_roundw
        case rel => exact ⟨i, by omega, by go_num, by rw [unhide E], (unhide D2).1, (unhide D2).2.1, by rw [unhide E]; exact (unhide D2).2.2.1, (unhide D2).2.2.2⟩
        case measure => simp [intOf]
      · have hposI : ¬ (0 : Int) < (W i : Int) := by omega
        have E := hide (refC_none W x i hi4 hpos)
        go_wp2
        go_roundw
        case rel => exact ⟨i, by omega, by go_num, by rw [unhide E], (unhide D).1, (unhide D).2.1, by rw [unhide E]; exact (unhide D).2.2.1, (unhide D).2.2.2⟩
        case measure => simp [intOf]

theorem refUnpack_any (f : Nat) (ao : Option Addr) (cap : Nat) (xs : List Int) (w : World) (h1 : 1 ≤ f) (h7 : f ≤ 7) (hr : Row .u8 w (.slice ao xs.length cap) xs) (hB : Byt xs) (hl : xs.length = siz f) :
    Calls Try.prog 38 #[.int .i64 (f : Int), .slice ao xs.length cap] w fun e w' => e = .returned (.agg #[.int .i32 (colN f (numOf xs) 0), .int .i32 (colN f (numOf xs) 1), .int .i32 (colN f (numOf xs) 2), .int .i32 (colN f (numOf xs) 3)]) ∧ Ext w w' := by
  rcases (by omega : f = 1 ∨ (2 ≤ f ∧ f ≤ 4) ∨ f = 5 ∨ f = 6 ∨ f = 7) with rfl | ⟨h2, h4⟩ | rfl | rfl | rfl
  · match xs, hl with
    | [x, y, z, u], _ =>
      obtain ⟨b, off, rfl, hc⟩ := hr.at 0 (by simp)
      have gx := hB.get 0
      have gy := hB.get 1
      have gz := hB.get 2
      have gu := hB.get 3
      have e : numOf [x, y, z, u] = x + 256 * (y + 256 * (z + 256 * u)) := by simp [numOf]
      rw [e]
      exact refUnpack_1 b off cap x y z u w (hc 0 (by simp)) (hc 1 (by simp)) (hc 2 (by simp)) (hc 3 (by simp)) gx.1 gx.2 gy.1 gy.2 gz.1 gz.2 gu.1 gu.2
  · exact refUnpack_16 f ao cap xs w h2 h4 hr hB (by rw [hl]; exact (pk_16 f nul h2 h4).2)
  · match xs, hl with
    | [x], _ =>
      obtain ⟨b, off, rfl, hc⟩ := hr.at 0 (by simp)
      have gx := hB.get 0
      have e : numOf [x] = x := by simp [numOf]
      rw [e]
      exact refUnpack_5 b off cap x w (hc 0 (by simp)) gx.1 gx.2
  · match xs, hl with
    | [x], _ =>
      obtain ⟨b, off, rfl, hc⟩ := hr.at 0 (by simp)
      have gx := hB.get 0
      have e : numOf [x] = x := by simp [numOf]
      rw [e]
      exact refUnpack_6 b off cap x w (hc 0 (by simp)) gx.1 gx.2
  · match xs, hl with
    | [x, y], _ =>
      obtain ⟨b, off, rfl, hc⟩ := hr.at 0 (by simp)
      have gx := hB.get 0
      have gy := hB.get 1
      have e : numOf [x, y] = x + 256 * y := by simp [numOf]
      rw [e]
      exact refUnpack_7 b off cap x y w (hc 0 (by simp)) (hc 1 (by simp)) gx.1 gx.2 gy.1 gy.2
end Go.Proofs.Ytadajaoidhbmgaa
