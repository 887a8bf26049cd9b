/-
  The walk of 'wakes': the layer does something.
-/
import Derived.Test.YtbjjoidobnfghaaW3
import Derived.Test.YtbjjoidobnfghaaW4
namespace Go.Proofs.Ytbjjoidobnfghaa
open Go.RowKit

theorem row3 (w : World) (a b c : Int) (e : TypeId) : Row .u8 (w.alloc (.cells #[.int .u8 a, .int .u8 b, .int .u8 c] e)) (.slice (some ⟨w.heap.size, 0, none⟩) 3 3) [a, b, c] := by
  refine .inr ⟨by simp, w.heap.size, 0, 3, rfl, by simp, by unfold maxLen; decide, fun i hi => ?_⟩
  match i, hi with
  | 0, _ => simp
  | 1, _ => simp
  | 2, _ => simp

set_option maxHeartbeats 400000 in
theorem wakes_any (w : World) : Calls Try.prog 8 #[] w fun e w' => e = .returned (.bool true) ∧ Below w.heap.size w w' := by
  go_enter Try.func8, Try.ntmps8
  go_wp2_with fail
  refine (read_any _ [1, 2, 5] _ (row3 w 1 2 5 _) (by decide) (by intro x hx; simp at hx; omega)).mono ?_
  rintro e w1 ⟨rb, sv, rfl, hrb, hrd, hb⟩
  have H := hide (And.intro hrb (And.intro hrd hb))
  clear hrb hrd hb
  go_wp2_with fail
  refine (u16_any (unhide H).2.1).mono ?_
  rintro e w2 ⟨rfl, hrd2, hg2⟩
  have H2 := hide (And.intro hrd2 hg2)
  clear hrd2 hg2
  have e1 : took [1, 2, 5] 0 0 2 = ([1, 2], 2, 0) := by decide
  rw [e1] at H2 ⊢
  go_wp2_with fail
  refine (left_any (unhide H2).1).mono ?_
  rintro e w3 ⟨rfl, n3, rfl⟩
  go_wp2_with fail
  refine (put32_any _ [7] 1 _ (Row.one _ _ _ _) (by decide) (by omega) (by omega)).mono ?_
  rintro e w4 ⟨ao, cap, rfl, hown, hb4⟩
  have HB4 := hide hb4
  clear hown hb4
  go_wp2
  go_ret
  obtain ⟨hrb, hrd, hb⟩ := unhide H
  obtain ⟨hrd2, hg2⟩ := unhide H2
  refine ⟨rfl, ?_⟩
  have hb4 := unhide HB4
  have s1 := hb.size
  have s4 := hb4.size
  have s2 := hg2.size
  simp at s1 s4 hrb
  have B1 : Below w.heap.size w w1 := ((Below.refl _ _).alloc (Nat.le_refl _) _).trans (hb.mono (by simp))
  have B2 : Below w.heap.size w w2 := B1.grown hg2 (by omega) (fun k h => by cases h; omega)
  exact ((below_drewN B2 n3).alloc (by simp; omega) _).trans (hb4.mono (by simp; omega))
end Go.Proofs.Ytbjjoidobnfghaa
