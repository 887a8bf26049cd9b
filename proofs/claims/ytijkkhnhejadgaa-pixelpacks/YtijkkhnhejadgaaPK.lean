/-
  Pixels: the walk of the document's Pack.
-/
import Derived.Test.YtijkkhnhejadgaaPH
import Derived.Test.YtijkkhnhejadgaaW7
namespace Go.Proofs.Ytijkkhnhejadgaa
open Go.RowKit

/-- The widths of the channels of a number of 16 bits. -/
def wid : Nat → Nat → Nat
  | 2, 0 => 5
  | 2, 1 => 6
  | 2, 2 => 5
  | 3, 0 => 4
  | 3, 1 => 4
  | 3, 2 => 4
  | 3, 3 => 4
  | 4, 0 => 5
  | 4, 1 => 5
  | 4, 2 => 5
  | 4, 3 => 1
  | _, _ => 0
/-- The cells of four widths. -/
def widA (W : Nat → Nat) : Array Value := #[.int .i64 (W 0 : Int), .int .i64 (W 1 : Int), .int .i64 (W 2 : Int), .int .i64 (W 3 : Int)]

theorem widths_any (f : Nat) (w : World) (h2 : 2 ≤ f) (h4 : f ≤ 4) :
    Calls Try.prog 30 #[.int .i64 (f : Int)] w fun e w' => e = .returned (.agg (widA (wid f))) ∧ Ext w w' := by
  have X : Hid (Ext w (w.alloc (.cells #[.int .i64 0, .int .i64 0, .int .i64 0, .int .i64 0] 63))) := (Ext.refl w).alloc _
  rcases (by omega : f = 2 ∨ f = 3 ∨ f = 4) with rfl | rfl | rfl
  all_goals
    go_enter Try.func30, Try.ntmps30
    go_wp2
  · refine bodyPost_ret (v := .agg (widA (wid 2))) (by simp [results, Try.results30, go_sem, widA, wid]) rfl ⟨rfl, (Ext.refl w).alloc _⟩
  · refine bodyPost_ret (v := .agg (widA (wid 3))) (by simp [results, Try.results30, go_sem, widA, wid]) rfl ⟨rfl, (Ext.refl w).alloc _⟩
  · refine bodyPost_ret (v := .agg (widA (wid 4))) (by simp [results, Try.results30, go_sem, widA, wid]) rfl ⟨rfl, (Ext.refl w).alloc _⟩

/-- The document's number of the first k channels. -/
def refX (W : Nat → Nat) (c : Nat → Int) : Nat → Int
  | 0 => 0
  | k + 1 => if 0 < W k then refX W c k * (fullI (W k) + 1) + bitsI (c k) (W k) else refX W c k

theorem refX_step (W : Nat → Nat) (c : Nat → Int) (k : Nat) (b : Nat) (h : W k = b) (hb : 0 < b) : refX W c (k + 1) = refX W c k * (fullI b + 1) + bitsI (c k) b := by
  subst h
  exact if_pos hb
theorem refX_skip (W : Nat → Nat) (c : Nat → Int) (k : Nat) (h : W k = 0) : refX W c (k + 1) = refX W c k := if_neg (by omega)

theorem refX2 (c : Nat → Int) : refX (wid 2) c 4 = packN 2 c ∧ ∀ k, k ≤ 4 → 0 ≤ refX (wid 2) c k ∧ refX (wid 2) c k ≤ 65535 := by
  have h0 := b5 (c 0)
  have h1 := b6 (c 1)
  have h2 := b5 (c 2)
  have e0 : refX (wid 2) c 0 = 0 := rfl
  have e1 : refX (wid 2) c 1 = bitsI (c 0) 5 := by rw [refX_step _ c 0 5 rfl (by decide), e0]; simp
  have e2 : refX (wid 2) c 2 = bitsI (c 0) 5 * 64 + bitsI (c 1) 6 := by rw [refX_step _ c 1 6 rfl (by decide), e1]; rfl
  have e3 : refX (wid 2) c 3 = (bitsI (c 0) 5 * 64 + bitsI (c 1) 6) * 32 + bitsI (c 2) 5 := by rw [refX_step _ c 2 5 rfl (by decide), e2]; rfl
  have e4 : refX (wid 2) c 4 = (bitsI (c 0) 5 * 64 + bitsI (c 1) 6) * 32 + bitsI (c 2) 5 := by rw [refX_skip _ c 3 rfl, e3]
  refine ⟨by rw [e4, pack2]; omega, fun k hk => ?_⟩
  rcases (by omega : k = 0 ∨ k = 1 ∨ k = 2 ∨ k = 3 ∨ k = 4) with rfl | rfl | rfl | rfl | rfl
  · rw [e0]; omega
  · rw [e1]; omega
  · rw [e2]; omega
  · rw [e3]; omega
  · rw [e4]; omega
theorem refX3 (c : Nat → Int) : refX (wid 3) c 4 = packN 3 c ∧ ∀ k, k ≤ 4 → 0 ≤ refX (wid 3) c k ∧ refX (wid 3) c k ≤ 65535 := by
  have h0 := b4 (c 0)
  have h1 := b4 (c 1)
  have h2 := b4 (c 2)
  have h3 := b4 (c 3)
  have e0 : refX (wid 3) c 0 = 0 := rfl
  have e1 : refX (wid 3) c 1 = bitsI (c 0) 4 := by rw [refX_step _ c 0 4 rfl (by decide), e0]; simp
  have e2 : refX (wid 3) c 2 = bitsI (c 0) 4 * 16 + bitsI (c 1) 4 := by rw [refX_step _ c 1 4 rfl (by decide), e1]; rfl
  have e3 : refX (wid 3) c 3 = (bitsI (c 0) 4 * 16 + bitsI (c 1) 4) * 16 + bitsI (c 2) 4 := by rw [refX_step _ c 2 4 rfl (by decide), e2]; rfl
  have e4 : refX (wid 3) c 4 = ((bitsI (c 0) 4 * 16 + bitsI (c 1) 4) * 16 + bitsI (c 2) 4) * 16 + bitsI (c 3) 4 := by rw [refX_step _ c 3 4 rfl (by decide), e3]; rfl
  refine ⟨by rw [e4, pack3]; omega, fun k hk => ?_⟩
  rcases (by omega : k = 0 ∨ k = 1 ∨ k = 2 ∨ k = 3 ∨ k = 4) with rfl | rfl | rfl | rfl | rfl
  · rw [e0]; omega
  · rw [e1]; omega
  · rw [e2]; omega
  · rw [e3]; omega
  · rw [e4]; omega
theorem refX4 (c : Nat → Int) : refX (wid 4) c 4 = packN 4 c ∧ ∀ k, k ≤ 4 → 0 ≤ refX (wid 4) c k ∧ refX (wid 4) c k ≤ 65535 := by
  have h0 := b5 (c 0)
  have h1 := b5 (c 1)
  have h2 := b5 (c 2)
  have h3 := b1 (c 3)
  have e0 : refX (wid 4) c 0 = 0 := rfl
  have e1 : refX (wid 4) c 1 = bitsI (c 0) 5 := by rw [refX_step _ c 0 5 rfl (by decide), e0]; simp
  have e2 : refX (wid 4) c 2 = bitsI (c 0) 5 * 32 + bitsI (c 1) 5 := by rw [refX_step _ c 1 5 rfl (by decide), e1]; rfl
  have e3 : refX (wid 4) c 3 = (bitsI (c 0) 5 * 32 + bitsI (c 1) 5) * 32 + bitsI (c 2) 5 := by rw [refX_step _ c 2 5 rfl (by decide), e2]; rfl
  have e4 : refX (wid 4) c 4 = ((bitsI (c 0) 5 * 32 + bitsI (c 1) 5) * 32 + bitsI (c 2) 5) * 2 + bitsI (c 3) 1 := by rw [refX_step _ c 3 1 rfl (by decide), e3]; rfl
  refine ⟨by rw [e4, pack4]; omega, fun k hk => ?_⟩
  rcases (by omega : k = 0 ∨ k = 1 ∨ k = 2 ∨ k = 3 ∨ k = 4) with rfl | rfl | rfl | rfl | rfl
  · rw [e0]; omega
  · rw [e1]; omega
  · rw [e2]; omega
  · rw [e3]; omega
  · rw [e4]; omega
theorem refX_all (f : Nat) (c : Nat → Int) (h2 : 2 ≤ f) (h4 : f ≤ 4) : refX (wid f) c 4 = packN f c ∧ ∀ k, k ≤ 4 → 0 ≤ refX (wid f) c k ∧ refX (wid f) c k ≤ 65535 := by
  rcases (by omega : f = 2 ∨ f = 3 ∨ f = 4) with rfl | rfl | rfl
  · exact refX2 c
  · exact refX3 c
  · exact refX4 c
theorem wid_le (f k : Nat) (h2 : 2 ≤ f) (h4 : f ≤ 4) (hk : k < 4) : wid f k ≤ 16 := by
  rcases (by omega : f = 2 ∨ f = 3 ∨ f = 4) with rfl | rfl | rfl <;> rcases (by omega : k = 0 ∨ k = 1 ∨ k = 2 ∨ k = 3) with rfl | rfl | rfl | rfl <;> decide
theorem Blk.wid {w : World} {b : Nat} {W : Nat → Nat} {t : TypeId} (h : Blk w b (widA W) t) (k : Nat) (hk : k < 4) : w.cell? ⟨b, k, none⟩ = some (.int .i64 (W k : Int)) := by
  refine h.cell ?_
  rcases (by omega : k = 0 ∨ k = 1 ∨ k = 2 ∨ k = 3) with rfl | rfl | rfl | rfl <;> rfl
theorem size63 : (Try.prog.info? 63).map (·.size) = some 4 := by kernel_rfl
theorem widA_one (W : Nat → Nat) : (widA W).all (·.oneCell') = true := by simp [widA, Value.oneCell']

theorem pk_16 (f : Nat) (c : Nat → Int) (h2 : 2 ≤ f) (h4 : f ≤ 4) : pk f c = low (packN f c) 2 ∧ siz f = 2 := by
  rcases (by omega : f = 2 ∨ f = 3 ∨ f = 4) with rfl | rfl | rfl <;> exact ⟨rfl, rfl⟩

set_option maxHeartbeats 2000000 in
theorem refPack_16 (f : Nat) (c : Nat → Int) (w : World) (h2 : 2 ≤ f) (h4 : f ≤ 4) (hI : ∀ i, I32 (c i)) :
    Calls Try.prog 18 #[.int .i64 (f : Int), .agg #[.int .i32 (c 0), .int .i32 (c 1), .int .i32 (c 2), .int .i32 (c 3)]] w fun e w' =>
      ∃ ao cap, e = .returned (.slice ao (siz f) cap) ∧ Row .u8 w' (.slice ao (siz f) cap) (pk f c) ∧ Ext w w' := by
  have HP := hide (pk_16 f c h2 h4)
  have HX := hide (refX_all f c h2 h4)
  have HI := hide hI
  have B0 := hide (Blk.at (w := w) (cs := #[.int .i32 (c 0), .int .i32 (c 1), .int .i32 (c 2), .int .i32 (c 3)]) (t := 35) rfl)
  have f1 : ((f : Int) == 1) = false := by simp; omega
  have f5 : ((f : Int) == 5) = false := by simp; omega
  have f6 : ((f : Int) == 6) = false := by simp; omega
  have f7 : ((f : Int) == 7) = false := by simp; omega
  have HW : Hid (∀ k, k < 4 → wid f k ≤ 16) := fun k hk => wid_le f k h2 h4 hk
  clear hI
  go_enter Try.func18, Try.ntmps18
  go_wp2_with fail
  refine (widths_any f _ h2 h4).mono ?_
  rintro e w1 ⟨rfl, hx⟩
  have D0 := hide (And.intro (((unhide B0).ext hx).alloc (.cells (widA (wid f)) 63)) (And.intro (Blk.new w1 (widA (wid f)) 63) ((((Ext.refl w).alloc _).trans hx).alloc (.cells (widA (wid f)) 63))))
  clear hx B0
  generalize hWf : wid f = W at *
  have HWf := hide hWf
  clear hWf
  go_wp2_with (refine wpList_store_last rfl 63 (.tmp 6) (.tmp 53) rfl _ rfl (widA W) rfl 4 size63 rfl rfl (widA_one _) ?_)
  go_loopw [5, 7] (fun x i wr => ∃ k : Nat, k ≤ 4 ∧ i = .int .i64 k ∧ x = .int .i64 (refX W c k) ∧ Blk wr w.heap.size #[.int .i32 (c 0), .int .i32 (c 1), .int .i32 (c 2), .int .i32 (c 3)] 35 ∧ Blk wr w1.heap.size (widA W) 63 ∧ Ext w wr) (fun _ i _ => 4 - (intOf i).toNat)
  case atStart => exact ⟨0, by omega, rfl, rfl, (unhide D0).1, (unhide D0).2.1, (unhide D0).2.2⟩
  case round =>
    obtain ⟨k, hk, rfl, rfl, hb0, hb1, hx⟩ := hrel
    have D := hide (And.intro hb0 (And.intro hb1 hx))
    clear hb0 hb1 hx D0
    have hX := (unhide HX).2 k hk
    by_cases hlt : k < 4
    · have hki : (k : Int) < 4 := by omega
      have hc := (unhide D).1.vec k hlt
      have hw := (unhide D).2.1.wid k hlt
      have hW := unhide HW k hlt
      have hm := full_nonneg hW
      have hbb := bits_bound (c k) hW
      have E1 : Hid (0 < W k → refX W c (k + 1) = refX W c k * (fullI (W k) + 1) + bitsI (c k) (W k)) := fun h => if_pos h
      have E2 : Hid (¬ 0 < W k → refX W c (k + 1) = refX W c k) := fun h => if_neg h
      have hmul : 0 ≤ refX W c k * (fullI (W k) + 1) ∧ refX W c k * (fullI (W k) + 1) ≤ 65535 * 65536 := ⟨Int.mul_nonneg hX.1 (by omega), Int.mul_le_mul hX.2 (by omega) (by omega) (by omega)⟩
      by_cases h0 : 0 < W k
      · have h0i : (0 : Int) < (W k : Int) := by omega
        go_wp2
        go_quiet (first | (go_at_call 28; refine Calls.quiet_of_same (power_any (W k) _ hW)) | (go_at_call 12; refine Calls.quiet_of_same (refBits_any (c k) (W k) _ hW (unhide HI k))))
        go_wp2
        go_roundw
        case rel => exact ⟨k + 1, by omega, by go_num, congrArg _ (unhide E1 h0).symm, (unhide D).1.drewN _, (unhide D).2.1.drewN _, (unhide D).2.2.drewN _⟩
        case measure => simp [intOf]; omega
      · have h0i : ¬ (0 : Int) < (W k : Int) := by omega
        go_wp2
        go_roundw
        case rel => exact ⟨k + 1, by omega, by go_num, congrArg _ (unhide E2 h0).symm, (unhide D).1, (unhide D).2.1, (unhide D).2.2⟩
        case measure => simp [intOf]; omega
    · obtain rfl : k = 4 := by omega
      go_wp2_with fail
      refine (low_any (refX W c 4) 2 _ hX.1 (by omega) (by omega)).mono ?_
      rintro e w3 ⟨ao, cap, rfl, hown, hx3⟩
      have R := hide (And.intro hown.row ((unhide D).2.2.trans hx3))
      clear hown hx3
      go_wp2
      go_ret
      rw [(unhide HP).1, (unhide HP).2, ← (unhide HX).1]
      exact ⟨ao, cap, rfl, unhide R⟩
end Go.Proofs.Ytijkkhnhejadgaa
