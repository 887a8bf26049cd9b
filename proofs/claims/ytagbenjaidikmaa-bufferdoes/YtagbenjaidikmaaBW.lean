/-
  Buffers: wakes.
-/
import Derived.Test.YtagbenjaidikmaaBF
namespace Go.Proofs.Ytagbenjaidikmaa
open Go.RowKit

theorem newBudget_blk (n : Int) (h0 : 0 ≤ n) (h1 : n ≤ 262144) (w : World) :
    Calls Try.prog 8 #[.int .i64 n] w fun e w' => e = .returned (.tuple #[.pointer (some ⟨w.heap.size, 0, none⟩), .int .i64 0]) ∧ Blk w' w.heap.size (bud n 0) 60 ∧ Ext w w' := by
  refine (newBudget_any n h0 h1 w).mono ?_
  rintro e w' ⟨rfl, rfl⟩
  exact ⟨rfl, Blk.new _ _ _, (Ext.refl w).alloc _⟩

set_option maxRecDepth 10000 in
set_option maxHeartbeats 2000000 in
theorem wakes_any (w : World) : Calls Try.prog 7 #[] w fun e w' => e = .returned (.bool true) ∧ Ext w w' := by
  go_enter Try.func7, Try.ntmps7
  go_wp2_with fail
  refine (newBudget_blk 10 (by omega) (by omega) _).mono ?_
  rintro e w1 ⟨rfl, hG, hx1⟩
  have HG := hide hG
  have H1 := hide hx1
  clear hG hx1
  go_wp2_with fail
  refine (new_sto (base := w.heap.size) (unhide HG) ⟨by omega, by omega, by omega⟩ (Nat.le_refl _)).mono ?_
  rintro e w2 ⟨S, M, rfl, hs2, hx2⟩
  have H2 := hide hs2
  have HX := hide ((unhide H1).trans hx2)
  clear hs2 hx2
  go_wp2_with fail
  have hr3 : Row .u8 (w2.alloc (.cells #[.int .u8 1, .int .u8 2, .int .u8 3] 5)) (.slice (some ⟨w2.heap.size, 0, none⟩) 3 3) [1, 2, 3] := by
    refine .inr ⟨by simp, w2.heap.size, 0, 3, rfl, by simp, by unfold maxLen; omega, fun i hi => ?_⟩
    have hi' : i < 3 := hi
    rcases (by omega : i = 0 ∨ i = 1 ∨ i = 2) with rfl | rfl | rfl <;> simp
  have hs3 := (unhide H2).ext ((Ext.refl w2).alloc (.cells #[.int .u8 1, .int .u8 2, .int .u8 3] 5))
  refine (data_put hs3 (id := 1) ⟨by omega, by omega⟩ (by omega) hr3 (by simp [lenOf, look]) (by simp) (by simp [maxLen])).mono ?_
  rintro e w4 ⟨v', rfl, hs4, ho4, hb4⟩
  have HX4 : Hid (Ext w w4) := by
    have hb := ho4.below (B := w.heap.size) (by have := (unhide HX).size; simp; omega) (fun k hk => hs3.mine_low hk)
    exact Below.trans (((unhide HX).alloc _)) hb
  have HS4 := hide hs4
  clear hr3 hs3 hs4 ho4 hb4
  go_wp2_with fail
  refine (get_some (unhide HS4) (id := 1) (v := v') (bs := [1, 2, 3]) ⟨by omega, by omega⟩ (by simp [look, ins, rem]) 1 2 (by simp)).mono ?_
  rintro e w5 ⟨ao5, cap5, rfl, hown5, hx5⟩
  have hrow5 := hown5.row
  obtain ⟨b5, off5, rfl, hc5⟩ := hrow5.at 0 (by simp)
  have c50 := hc5 0 (by simp)
  have c51 := hc5 1 (by simp)
  simp at c50 c51
  have HX5 := hide ((unhide HX4).trans hx5)
  have HS5 := hide ((unhide HS4).ext hx5)
  clear hown5 hx5 hrow5 hc5
  go_wp2_with fail
  refine (left_any w.heap.size 10 3 _ ⟨by omega, by omega, by omega⟩ (show Blk w5 w.heap.size (bud 10 (max 0 (0 - (lenOf 1 [] : Nat) + ([1, 2, 3] : List Int).length))) 60 from (unhide HS5).bu)).mono ?_
  rintro e w6 ⟨rfl, m, rfl⟩
  go_wp2
  go_ret
  exact ⟨rfl, (unhide HX5).drewN m⟩
end Go.Proofs.Ytagbenjaidikmaa
