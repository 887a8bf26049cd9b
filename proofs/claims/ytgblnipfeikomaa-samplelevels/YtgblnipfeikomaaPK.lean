/-
  Pixels: the walk of the document's Pack. What the dump lacks is left out.
-/
import Derived.Test.YtgblnipfeikomaaPH
import Derived.Test.YtgblnipfeikomaaW7
namespace Go.Proofs.Ytgblnipfeikomaa
open Go.RowKit

/-- The widths of the channels of a number of 16 bits. -/
def wid : Nat → Nat → Nat
  | 2, 0 => 5
  | 2, 1 => 6
  | 2, 2 => 5
  | 3, 0 => 4
  | 3, 1 => 4
  | 3, 2 => 4
  | 3, 3 => 4
  | 4, 0 => 5
  | 4, 1 => 5
  | 4, 2 => 5
  | 4, 3 => 1
  | _, _ => 0
/-- The cells of four widths. -/
def widA (W : Nat → Nat) : Array Value := #[.int .i64 (W 0 : Int), .int .i64 (W 1 : Int), .int .i64 (W 2 : Int), .int .i64 (W 3 : Int)]

theorem widths_any (f : Nat) (w : World) (h2 : 2 ≤ f) (h4 : f ≤ 4) :
    Calls Try.prog 46 #[.int .i64 (f : Int)] w fun e w' => e = .returned (.agg (widA (wid f))) ∧ Ext w w' := by
  have X : Hid (Ext w (w.alloc (.cells #[.int .i64 0, .int .i64 0, .int .i64 0, .int .i64 0] 72))) := (Ext.refl w).alloc _
  rcases (by omega : f = 2 ∨ f = 3 ∨ f = 4) with rfl | rfl | rfl
  all_goals
    go_enter Try.func46, Try.ntmps46
    go_wp2
  · refine bodyPost_ret (v := .agg (widA (wid 2))) (by simp [results, Try.results46, go_sem, widA, wid]) rfl ⟨rfl, (Ext.refl w).alloc _⟩
  · refine bodyPost_ret (v := .agg (widA (wid 3))) (by simp [results, Try.results46, go_sem, widA, wid]) rfl ⟨rfl, (Ext.refl w).alloc _⟩
  · refine bodyPost_ret (v := .agg (widA (wid 4))) (by simp [results, Try.results46, go_sem, widA, wid]) rfl ⟨rfl, (Ext.refl w).alloc _⟩

/-- The document's number of the first k channels. -/
def refX (W : Nat → Nat) (c : Nat → Int) : Nat → Int
  | 0 => 0
  | k + 1 => if 0 < W k then refX W c k * (fullI (W k) + 1) + bitsI (c k) (W k) else refX W c k

theorem refX_step (W : Nat → Nat) (c : Nat → Int) (k : Nat) (b : Nat) (h : W k = b) (hb : 0 < b) : refX W c (k + 1) = refX W c k * (fullI b + 1) + bitsI (c k) b := by
  subst h
  exact if_pos hb
theorem refX_skip (W : Nat → Nat) (c : Nat → Int) (k : Nat) (h : W k = 0) : refX W c (k + 1) = refX W c k := if_neg (by omega)

theorem refX2 (c : Nat → Int) : refX (wid 2) c 4 = packN 2 c ∧ ∀ k, k ≤ 4 → 0 ≤ refX (wid 2) c k ∧ refX (wid 2) c k ≤ 65535 := by
  have h0 := b5 (c 0)
  have h1 := b6 (c 1)
  have h2 := b5 (c 2)
  have e0 : refX (wid 2) c 0 = 0 := rfl
  have e1 : refX (wid 2) c 1 = bitsI (c 0) 5 := by rw [refX_step _ c 0 5 rfl (by decide), e0]; simp
  have e2 : refX (wid 2) c 2 = bitsI (c 0) 5 * 64 + bitsI (c 1) 6 := by rw [refX_step _ c 1 6 rfl (by decide), e1]; rfl
  have e3 : refX (wid 2) c 3 = (bitsI (c 0) 5 * 64 + bitsI (c 1) 6) * 32 + bitsI (c 2) 5 := by rw [refX_step _ c 2 5 rfl (by decide), e2]; rfl
  have e4 : refX (wid 2) c 4 = (bitsI (c 0) 5 * 64 + bitsI (c 1) 6) * 32 + bitsI (c 2) 5 := by rw [refX_skip _ c 3 rfl, e3]
  refine ⟨by rw [e4, pack2]; omega, fun k hk => ?_⟩
  rcases (by omega : k = 0 ∨ k = 1 ∨ k = 2 ∨ k = 3 ∨ k = 4) with rfl | rfl | rfl | rfl | rfl
  · rw [e0]; omega
  · rw [e1]; omega
  · rw [e2]; omega
  · rw [e3]; omega
  · rw [e4]; omega
theorem refX3 (c : Nat → Int) : refX (wid 3) c 4 = packN 3 c ∧ ∀ k, k ≤ 4 → 0 ≤ refX (wid 3) c k ∧ refX (wid 3) c k ≤ 65535 := by
  have h0 := b4 (c 0)
  have h1 := b4 (c 1)
  have h2 := b4 (c 2)
  have h3 := b4 (c 3)
  have e0 : refX (wid 3) c 0 = 0 := rfl
  have e1 : refX (wid 3) c 1 = bitsI (c 0) 4 := by rw [refX_step _ c 0 4 rfl (by decide), e0]; simp
  have e2 : refX (wid 3) c 2 = bitsI (c 0) 4 * 16 + bitsI (c 1) 4 := by rw [refX_step _ c 1 4 rfl (by decide), e1]; rfl
  have e3 : refX (wid 3) c 3 = (bitsI (c 0) 4 * 16 + bitsI (c 1) 4) * 16 + bitsI (c 2) 4 := by rw [refX_step _ c 2 4 rfl (by decide), e2]; rfl
  have e4 : refX (wid 3) c 4 = ((bitsI (c 0) 4 * 16 + bitsI (c 1) 4) * 16 + bitsI (c 2) 4) * 16 + bitsI (c 3) 4 := by rw [refX_step _ c 3 4 rfl (by decide), e3]; rfl
  refine ⟨by rw [e4, pack3]; omega, fun k hk => ?_⟩
  rcases (by omega : k = 0 ∨ k = 1 ∨ k = 2 ∨ k = 3 ∨ k = 4) with rfl | rfl | rfl | rfl | rfl
  · rw [e0]; omega
  · rw [e1]; omega
  · rw [e2]; omega
  · rw [e3]; omega
  · rw [e4]; omega
theorem refX4 (c : Nat → Int) : refX (wid 4) c 4 = packN 4 c ∧ ∀ k, k ≤ 4 → 0 ≤ refX (wid 4) c k ∧ refX (wid 4) c k ≤ 65535 := by
  have h0 := b5 (c 0)
  have h1 := b5 (c 1)
  have h2 := b5 (c 2)
  have h3 := b1 (c 3)
  have e0 : refX (wid 4) c 0 = 0 := rfl
  have e1 : refX (wid 4) c 1 = bitsI (c 0) 5 := by rw [refX_step _ c 0 5 rfl (by decide), e0]; simp
  have e2 : refX (wid 4) c 2 = bitsI (c 0) 5 * 32 + bitsI (c 1) 5 := by rw [refX_step _ c 1 5 rfl (by decide), e1]; rfl
  have e3 : refX (wid 4) c 3 = (bitsI (c 0) 5 * 32 + bitsI (c 1) 5) * 32 + bitsI (c 2) 5 := by rw [refX_step _ c 2 5 rfl (by decide), e2]; rfl
  have e4 : refX (wid 4) c 4 = ((bitsI (c 0) 5 * 32 + bitsI (c 1) 5) * 32 + bitsI (c 2) 5) * 2 + bitsI (c 3) 1 := by rw [refX_step _ c 3 1 rfl (by decide), e3]; rfl
  refine ⟨by rw [e4, pack4]; omega, fun k hk => ?_⟩
  rcases (by omega : k = 0 ∨ k = 1 ∨ k = 2 ∨ k = 3 ∨ k = 4) with rfl | rfl | rfl | rfl | rfl
  · rw [e0]; omega
  · rw [e1]; omega
  · rw [e2]; omega
  · rw [e3]; omega
  · rw [e4]; omega
theorem refX_all (f : Nat) (c : Nat → Int) (h2 : 2 ≤ f) (h4 : f ≤ 4) : refX (wid f) c 4 = packN f c ∧ ∀ k, k ≤ 4 → 0 ≤ refX (wid f) c k ∧ refX (wid f) c k ≤ 65535 := by
  rcases (by omega : f = 2 ∨ f = 3 ∨ f = 4) with rfl | rfl | rfl
  · exact refX2 c
  · exact refX3 c
  · exact refX4 c
theorem wid_le (f k : Nat) (h2 : 2 ≤ f) (h4 : f ≤ 4) (hk : k < 4) : wid f k ≤ 16 := by
  rcases (by omega : f = 2 ∨ f = 3 ∨ f = 4) with rfl | rfl | rfl <;> rcases (by omega : k = 0 ∨ k = 1 ∨ k = 2 ∨ k = 3) with rfl | rfl | rfl | rfl <;> decide
theorem Blk.wid {w : World} {b : Nat} {W : Nat → Nat} {t : TypeId} (h : Blk w b (widA W) t) (k : Nat) (hk : k < 4) : w.cell? ⟨b, k, none⟩ = some (.int .i64 (W k : Int)) := by
  refine h.cell ?_
  rcases (by omega : k = 0 ∨ k = 1 ∨ k = 2 ∨ k = 3) with rfl | rfl | rfl | rfl <;> rfl
theorem size63 : (Try.prog.info? 72).map (·.size) = some 4 := by kernel_rfl
theorem widA_one (W : Nat → Nat) : (widA W).all (·.oneCell') = true := by simp [widA, Value.oneCell']

theorem pk_16 (f : Nat) (c : Nat → Int) (h2 : 2 ≤ f) (h4 : f ≤ 4) : pk f c = low (packN f c) 2 ∧ siz f = 2 := by
  rcases (by omega : f = 2 ∨ f = 3 ∨ f = 4) with rfl | rfl | rfl <;> exact ⟨rfl, rfl⟩

end Go.Proofs.Ytgblnipfeikomaa
