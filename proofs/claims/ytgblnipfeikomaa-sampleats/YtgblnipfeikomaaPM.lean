/-
  Pixels: the walk of the document's Unpack.
-/
import Derived.Test.YtgblnipfeikomaaPK
import Derived.Test.YtgblnipfeikomaaW8
import Derived.Deep.RegionHeld3
namespace Go.Proofs.Ytgblnipfeikomaa
open Go.RowKit

theorem col1 (x : Int) : colN 1 x 0 = numI (x / 2 ^ 0 % 2 ^ 8) 8 ∧ colN 1 x 1 = numI (x / 2 ^ 8 % 2 ^ 8) 8 ∧ colN 1 x 2 = numI (x / 2 ^ 16 % 2 ^ 8) 8 ∧ colN 1 x 3 = numI (x / 2 ^ 24 % 2 ^ 8) 8 := ⟨rfl, rfl, rfl, rfl⟩
theorem col2 (x : Int) : colN 2 x 0 = numI (x / 2 ^ 11 % 2 ^ 5) 5 ∧ colN 2 x 1 = numI (x / 2 ^ 5 % 2 ^ 6) 6 ∧ colN 2 x 2 = numI (x / 2 ^ 0 % 2 ^ 5) 5 ∧ colN 2 x 3 = 65536 := ⟨rfl, rfl, rfl, rfl⟩
theorem col3 (x : Int) : colN 3 x 0 = numI (x / 2 ^ 12 % 2 ^ 4) 4 ∧ colN 3 x 1 = numI (x / 2 ^ 8 % 2 ^ 4) 4 ∧ colN 3 x 2 = numI (x / 2 ^ 4 % 2 ^ 4) 4 ∧ colN 3 x 3 = numI (x / 2 ^ 0 % 2 ^ 4) 4 := ⟨rfl, rfl, rfl, rfl⟩
theorem col4 (x : Int) : colN 4 x 0 = numI (x / 2 ^ 11 % 2 ^ 5) 5 ∧ colN 4 x 1 = numI (x / 2 ^ 6 % 2 ^ 5) 5 ∧ colN 4 x 2 = numI (x / 2 ^ 1 % 2 ^ 5) 5 ∧ colN 4 x 3 = numI (x / 2 ^ 0 % 2 ^ 1) 1 := ⟨rfl, rfl, rfl, rfl⟩
theorem col5 (x : Int) : colN 5 x 0 = numI (x / 2 ^ 0 % 2 ^ 8) 8 ∧ colN 5 x 1 = numI (x / 2 ^ 0 % 2 ^ 8) 8 ∧ colN 5 x 2 = numI (x / 2 ^ 0 % 2 ^ 8) 8 ∧ colN 5 x 3 = 65536 := ⟨rfl, rfl, rfl, rfl⟩
theorem col6 (x : Int) : colN 6 x 0 = 0 ∧ colN 6 x 1 = 0 ∧ colN 6 x 2 = 0 ∧ colN 6 x 3 = numI (x / 2 ^ 0 % 2 ^ 8) 8 := ⟨rfl, rfl, rfl, rfl⟩
theorem col7 (x : Int) : colN 7 x 0 = numI (x / 2 ^ 0 % 2 ^ 8) 8 ∧ colN 7 x 1 = numI (x / 2 ^ 0 % 2 ^ 8) 8 ∧ colN 7 x 2 = numI (x / 2 ^ 0 % 2 ^ 8) 8 ∧ colN 7 x 3 = numI (x / 2 ^ 8 % 2 ^ 8) 8 := ⟨rfl, rfl, rfl, rfl⟩

theorem wrapu {x : Int} (h0 : 0 ≤ x) (h1 : x ≤ 255) : IntKind.u32.wrap x = x := by
  simp only [IntKind.wrap, IntKind.bits, IntKind.signed, Bool.false_and]
  simp
  omega
theorem full8 : fullI 8 = 255 := by decide

set_option maxHeartbeats 2000000 in
theorem refUnpack_5 (b off cap : Nat) (x : Int) (w : World) (hc : w.cell? ⟨b, off, none⟩ = some (.int .u8 x)) (h0 : 0 ≤ x) (h1 : x ≤ 255) :
    Calls Try.prog 34 #[.int .i64 5, .slice (some ⟨b, off, none⟩) 1 cap] w fun e w' => e = .returned (.agg #[.int .i32 (colN 5 x 0), .int .i32 (colN 5 x 1), .int .i32 (colN 5 x 2), .int .i32 (colN 5 x 3)]) ∧ Ext w w' := by
  have hb := World.block_lt_of_cell? w _ hc
  have hc2 : ∀ o, (w.alloc o).cell? ⟨b, off, none⟩ = some (.int .u8 x) := fun o => by rw [World.cell?_of_block (w := w) (heap_alloc_old w o hb)]; exact hc
  obtain ⟨k0, k1, k2, k3⟩ := col5 x
  have e : x / 2 ^ 0 % 2 ^ 8 = x := by omega
  rw [e] at k0 k1 k2
  have K := hide (And.intro k0 (And.intro k1 (And.intro k2 k3)))
  clear k0 k1 k2 k3 e hc
  go_enter Try.func34, Try.ntmps34
  go_wp2_with fail
  refine (refNumber_any x 8 _ (by decide) (by decide) h0 (by rw [full8]; exact h1)).mono ?_
  rintro e w1 ⟨rfl, rfl⟩
  go_wp2
  refine bodyPost_ret (v := .agg #[.int .i32 (colN 5 x 0), .int .i32 (colN 5 x 1), .int .i32 (colN 5 x 2), .int .i32 (colN 5 x 3)]) (by simp [results, Try.results34, go_sem, (unhide K).1, (unhide K).2.1, (unhide K).2.2.1, (unhide K).2.2.2]) rfl ⟨rfl, (Ext.refl w).alloc _⟩

set_option maxHeartbeats 2000000 in
theorem refUnpack_6 (b off cap : Nat) (x : Int) (w : World) (hc : w.cell? ⟨b, off, none⟩ = some (.int .u8 x)) (h0 : 0 ≤ x) (h1 : x ≤ 255) :
    Calls Try.prog 34 #[.int .i64 6, .slice (some ⟨b, off, none⟩) 1 cap] w fun e w' => e = .returned (.agg #[.int .i32 (colN 6 x 0), .int .i32 (colN 6 x 1), .int .i32 (colN 6 x 2), .int .i32 (colN 6 x 3)]) ∧ Ext w w' := by
  have hb := World.block_lt_of_cell? w _ hc
  have hc2 : ∀ o, (w.alloc o).cell? ⟨b, off, none⟩ = some (.int .u8 x) := fun o => by rw [World.cell?_of_block (w := w) (heap_alloc_old w o hb)]; exact hc
  obtain ⟨k0, k1, k2, k3⟩ := col6 x
  have e : x / 2 ^ 0 % 2 ^ 8 = x := by omega
  rw [e] at k3
  have K := hide (And.intro k0 (And.intro k1 (And.intro k2 k3)))
  clear k0 k1 k2 k3 e hc
  go_enter Try.func34, Try.ntmps34
  go_wp2_with fail
  refine (refNumber_any x 8 _ (by decide) (by decide) h0 (by rw [full8]; exact h1)).mono ?_
  rintro e w1 ⟨rfl, rfl⟩
  go_wp2
  refine bodyPost_ret (v := .agg #[.int .i32 (colN 6 x 0), .int .i32 (colN 6 x 1), .int .i32 (colN 6 x 2), .int .i32 (colN 6 x 3)]) (by simp [results, Try.results34, go_sem, (unhide K).1, (unhide K).2.1, (unhide K).2.2.1, (unhide K).2.2.2]) rfl ⟨rfl, (Ext.refl w).alloc _⟩

set_option maxHeartbeats 2000000 in
theorem refUnpack_7 (b off cap : Nat) (x y : Int) (w : World) (hc : w.cell? ⟨b, off, none⟩ = some (.int .u8 x)) (hd : w.cell? ⟨b, off + 1, none⟩ = some (.int .u8 y)) (h0 : 0 ≤ x) (h1 : x ≤ 255) (h2 : 0 ≤ y) (h3 : y ≤ 255) :
    Calls Try.prog 34 #[.int .i64 7, .slice (some ⟨b, off, none⟩) 2 cap] w fun e w' => e = .returned (.agg #[.int .i32 (colN 7 (x + 256 * y) 0), .int .i32 (colN 7 (x + 256 * y) 1), .int .i32 (colN 7 (x + 256 * y) 2), .int .i32 (colN 7 (x + 256 * y) 3)]) ∧ Ext w w' := by
  have hb := World.block_lt_of_cell? w _ hc
  have hc2 : ∀ o, (w.alloc o).cell? ⟨b, off, none⟩ = some (.int .u8 x) := fun o => by rw [World.cell?_of_block (w := w) (heap_alloc_old w o hb)]; exact hc
  have hb2 := World.block_lt_of_cell? w _ hd
  have hd2 : ∀ o, (w.alloc o).cell? ⟨b, off + 1, none⟩ = some (.int .u8 y) := fun o => by rw [World.cell?_of_block (w := w) (heap_alloc_old w o hb2)]; exact hd
  obtain ⟨k0, k1, k2, k3⟩ := col7 (x + 256 * y)
  have e : (x + 256 * y) / 2 ^ 0 % 2 ^ 8 = x := by omega
  have e2 : (x + 256 * y) / 2 ^ 8 % 2 ^ 8 = y := by omega
  rw [e] at k0 k1 k2
  rw [e2] at k3
  have K := hide (And.intro k0 (And.intro k1 (And.intro k2 k3)))
  clear k0 k1 k2 k3 e e2 hc hd
  go_enter Try.func34, Try.ntmps34
  go_wp2_with fail
  refine (refNumber_any x 8 _ (by decide) (by decide) h0 (by rw [full8]; exact h1)).mono ?_
  rintro e w1 ⟨rfl, rfl⟩
  go_wp2_with fail
  refine (refNumber_any y 8 _ (by decide) (by decide) h2 (by rw [full8]; exact h3)).mono ?_
  rintro e w1 ⟨rfl, rfl⟩
  go_wp2
  refine bodyPost_ret (v := .agg #[.int .i32 (colN 7 (x + 256 * y) 0), .int .i32 (colN 7 (x + 256 * y) 1), .int .i32 (colN 7 (x + 256 * y) 2), .int .i32 (colN 7 (x + 256 * y) 3)]) (by simp [results, Try.results34, go_sem, (unhide K).1, (unhide K).2.1, (unhide K).2.2.1, (unhide K).2.2.2]) rfl ⟨rfl, (Ext.refl w).alloc _⟩

set_option maxHeartbeats 4000000 in
theorem refUnpack_1 (b off cap : Nat) (x y z u : Int) (w : World) (hx : w.cell? ⟨b, off, none⟩ = some (.int .u8 x)) (hy : w.cell? ⟨b, off + 1, none⟩ = some (.int .u8 y)) (hz : w.cell? ⟨b, off + 2, none⟩ = some (.int .u8 z)) (hu : w.cell? ⟨b, off + 3, none⟩ = some (.int .u8 u))
    (x0 : 0 ≤ x) (x1 : x ≤ 255) (y0 : 0 ≤ y) (y1 : y ≤ 255) (z0 : 0 ≤ z) (z1 : z ≤ 255) (u0 : 0 ≤ u) (u1 : u ≤ 255) :
    Calls Try.prog 34 #[.int .i64 1, .slice (some ⟨b, off, none⟩) 4 cap] w fun e w' => e = .returned (.agg #[.int .i32 (colN 1 (x + 256 * (y + 256 * (z + 256 * u))) 0), .int .i32 (colN 1 (x + 256 * (y + 256 * (z + 256 * u))) 1), .int .i32 (colN 1 (x + 256 * (y + 256 * (z + 256 * u))) 2), .int .i32 (colN 1 (x + 256 * (y + 256 * (z + 256 * u))) 3)]) ∧ Ext w w' := by
  have hb := World.block_lt_of_cell? w _ hx
  have hE : ∀ o, Ext w (w.alloc o) := fun o => (Ext.refl w).alloc o
  have HC : Hid (∀ w', Ext w w' → w'.cell? ⟨b, off, none⟩ = some (.int .u8 x) ∧ w'.cell? ⟨b, off + 1, none⟩ = some (.int .u8 y) ∧ w'.cell? ⟨b, off + 2, none⟩ = some (.int .u8 z) ∧ w'.cell? ⟨b, off + 3, none⟩ = some (.int .u8 u)) := fun w' h =>
    ⟨(h.cell (p := ⟨b, off, none⟩) hb).trans hx, (h.cell (p := ⟨b, off + 1, none⟩) hb).trans hy, (h.cell (p := ⟨b, off + 2, none⟩) hb).trans hz, (h.cell (p := ⟨b, off + 3, none⟩) hb).trans hu⟩
  obtain ⟨d0, d1, d2, d3⟩ := unhide HC _ (hE (.cells #[.int .i32 0, .int .i32 0, .int .i32 0, .int .i32 0] 34))
  obtain ⟨k0, k1, k2, k3⟩ := col1 (x + 256 * (y + 256 * (z + 256 * u)))
  rw [show (x + 256 * (y + 256 * (z + 256 * u))) / 2 ^ 0 % 2 ^ 8 = x by omega] at k0
  rw [show (x + 256 * (y + 256 * (z + 256 * u))) / 2 ^ 8 % 2 ^ 8 = y by omega] at k1
  rw [show (x + 256 * (y + 256 * (z + 256 * u))) / 2 ^ 16 % 2 ^ 8 = z by omega] at k2
  rw [show (x + 256 * (y + 256 * (z + 256 * u))) / 2 ^ 24 % 2 ^ 8 = u by omega] at k3
  have K := hide (And.intro k0 (And.intro k1 (And.intro k2 k3)))
  clear k0 k1 k2 k3 hx hy hz hu hE
  have wx := wrapu x0 x1
  have wy := wrapu y0 y1
  have wz := wrapu z0 z1
  have wu := wrapu u0 u1
  go_enter Try.func34, Try.ntmps34
  go_wp2
  go_region_held3 (fun w' => w'.cell? ⟨b, off, none⟩ = some (.int .u8 x) ∧ w'.cell? ⟨b, off + 1, none⟩ = some (.int .u8 y) ∧ w'.cell? ⟨b, off + 2, none⟩ = some (.int .u8 z) ∧ w'.cell? ⟨b, off + 3, none⟩ = some (.int .u8 u)) (first | exact unhide HC _ (((Ext.refl w).alloc _).drew) | go_keep) (first | (go_at_call_of 44 (Value.int IntKind.u32 x); refine (refNumber_any x 8 _ (by decide) (by decide) x0 (by rw [full8]; exact x1)).mono ?_; rintro e w' ⟨rfl, rfl⟩) | (go_at_call_of 44 (Value.int IntKind.u32 y); refine (refNumber_any y 8 _ (by decide) (by decide) y0 (by rw [full8]; exact y1)).mono ?_; rintro e w' ⟨rfl, rfl⟩) | (go_at_call_of 44 (Value.int IntKind.u32 z); refine (refNumber_any z 8 _ (by decide) (by decide) z0 (by rw [full8]; exact z1)).mono ?_; rintro e w' ⟨rfl, rfl⟩) | (go_at_call_of 44 (Value.int IntKind.u32 u); refine (refNumber_any u 8 _ (by decide) (by decide) u0 (by rw [full8]; exact u1)).mono ?_; rintro e w' ⟨rfl, rfl⟩))
  go_wp2
  refine bodyPost_ret (v := .agg #[.int .i32 (colN 1 (x + 256 * (y + 256 * (z + 256 * u))) 0), .int .i32 (colN 1 (x + 256 * (y + 256 * (z + 256 * u))) 1), .int .i32 (colN 1 (x + 256 * (y + 256 * (z + 256 * u))) 2), .int .i32 (colN 1 (x + 256 * (y + 256 * (z + 256 * u))) 3)]) (by simp [results, Try.results34, go_sem, (unhide K).1, (unhide K).2.1, (unhide K).2.2.1, (unhide K).2.2.2]) rfl ⟨rfl, ((Ext.refl w).alloc _).drew⟩

/-- What is left of the number, and what the document's loop has laid, behind j channels from the last on. -/
def refC (W : Nat → Nat) (x : Int) : Nat → Int × (Nat → Int)
  | 0 => (x, fun i => if i = 3 then 65536 else 0)
  | j + 1 => if 0 < W (3 - j) then ((refC W x j).1 / (fullI (W (3 - j)) + 1), fun i => if i = 3 - j then numI ((refC W x j).1 % (fullI (W (3 - j)) + 1)) (W (3 - j)) else (refC W x j).2 i) else refC W x j

theorem refC_bound (W : Nat → Nat) (hW : ∀ k, k < 4 → W k ≤ 16) (x : Int) (h0 : 0 ≤ x) (h1 : x ≤ 65535) : ∀ j, j ≤ 4 → 0 ≤ (refC W x j).1 ∧ (refC W x j).1 ≤ 65535
  | 0, _ => ⟨h0, h1⟩
  | j + 1, hj => by
    have ih := refC_bound W hW x h0 h1 j (by omega)
    have hm := full_nonneg (hW (3 - j) (by omega))
    unfold refC
    split
    · refine ⟨Int.ediv_nonneg ih.1 (by omega), ?_⟩
      exact Int.le_trans (Int.ediv_le_self _ ih.1) ih.2
    · exact ih

theorem p5 : fullI 5 + 1 = 32 := by decide
theorem p6 : fullI 6 + 1 = 64 := by decide
theorem p4 : fullI 4 + 1 = 16 := by decide
theorem p1 : fullI 1 + 1 = 2 := by decide
theorem refC2 (x : Int) (i : Nat) (hi : i < 4) : (refC (wid 2) x 4).2 i = colN 2 x i := by
  obtain ⟨k0, k1, k2, k3⟩ := col2 x
  rcases (by omega : i = 0 ∨ i = 1 ∨ i = 2 ∨ i = 3) with rfl | rfl | rfl | rfl
  · rw [k0, show (refC (wid 2) x 4).2 0 = numI (x / (fullI 5 + 1) / (fullI 6 + 1) % (fullI 5 + 1)) 5 from rfl, p5, p6]
    congr 1 <;> omega
  · rw [k1, show (refC (wid 2) x 4).2 1 = numI (x / (fullI 5 + 1) % (fullI 6 + 1)) 6 from rfl, p5, p6]
    congr 1 <;> omega
  · rw [k2, show (refC (wid 2) x 4).2 2 = numI (x % (fullI 5 + 1)) 5 from rfl, p5]
    congr 1 <;> omega
  · rw [k3]
    rfl
theorem refC3 (x : Int) (i : Nat) (hi : i < 4) : (refC (wid 3) x 4).2 i = colN 3 x i := by
  obtain ⟨k0, k1, k2, k3⟩ := col3 x
  rcases (by omega : i = 0 ∨ i = 1 ∨ i = 2 ∨ i = 3) with rfl | rfl | rfl | rfl
  · rw [k0, show (refC (wid 3) x 4).2 0 = numI (x / (fullI 4 + 1) / (fullI 4 + 1) / (fullI 4 + 1) % (fullI 4 + 1)) 4 from rfl, p4]
    congr 1 <;> omega
  · rw [k1, show (refC (wid 3) x 4).2 1 = numI (x / (fullI 4 + 1) / (fullI 4 + 1) % (fullI 4 + 1)) 4 from rfl, p4]
    congr 1 <;> omega
  · rw [k2, show (refC (wid 3) x 4).2 2 = numI (x / (fullI 4 + 1) % (fullI 4 + 1)) 4 from rfl, p4]
    congr 1 <;> omega
  · rw [k3, show (refC (wid 3) x 4).2 3 = numI (x % (fullI 4 + 1)) 4 from rfl, p4]
    congr 1 <;> omega
theorem refC4 (x : Int) (i : Nat) (hi : i < 4) : (refC (wid 4) x 4).2 i = colN 4 x i := by
  obtain ⟨k0, k1, k2, k3⟩ := col4 x
  rcases (by omega : i = 0 ∨ i = 1 ∨ i = 2 ∨ i = 3) with rfl | rfl | rfl | rfl
  · rw [k0, show (refC (wid 4) x 4).2 0 = numI (x / (fullI 1 + 1) / (fullI 5 + 1) / (fullI 5 + 1) % (fullI 5 + 1)) 5 from rfl, p1, p5]
    congr 1 <;> omega
  · rw [k1, show (refC (wid 4) x 4).2 1 = numI (x / (fullI 1 + 1) / (fullI 5 + 1) % (fullI 5 + 1)) 5 from rfl, p1, p5]
    congr 1 <;> omega
  · rw [k2, show (refC (wid 4) x 4).2 2 = numI (x / (fullI 1 + 1) % (fullI 5 + 1)) 5 from rfl, p1, p5]
    congr 1 <;> omega
  · rw [k3, show (refC (wid 4) x 4).2 3 = numI (x % (fullI 1 + 1)) 1 from rfl, p1]
    congr 1 <;> omega
theorem refC_all (f : Nat) (x : Int) (h2 : 2 ≤ f) (h4 : f ≤ 4) (i : Nat) (hi : i < 4) : (refC (wid f) x 4).2 i = colN f x i := by
  rcases (by omega : f = 2 ∨ f = 3 ∨ f = 4) with rfl | rfl | rfl
  · exact refC2 x i hi
  · exact refC3 x i hi
  · exact refC4 x i hi
end Go.Proofs.Ytgblnipfeikomaa
