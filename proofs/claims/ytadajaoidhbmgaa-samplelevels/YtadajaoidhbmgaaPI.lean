/-
  Pixels: the walks of Pack, Unpack and Row. What the dump lacks is left out.
-/
import Derived.Test.YtadajaoidhbmgaaPH
namespace Go.Proofs.Ytadajaoidhbmgaa
open Go.RowKit
set_option maxRecDepth 10000

theorem vrow_one (c : Nat → Int) (w : World) (t : TypeId) : VRow (w.alloc (.cells #[.int .i32 (c 0), .int .i32 (c 1), .int .i32 (c 2), .int .i32 (c 3)] t)) (.slice (some ⟨w.heap.size, 0, none⟩) 1 1) [c] := by
  refine .inr ⟨by simp, w.heap.size, 0, 1, rfl, fun i j hi hj => ?_⟩
  obtain rfl : i = 0 := by simpa using hi
  have := (Blk.at (w := w) (cs := #[.int .i32 (c 0), .int .i32 (c 1), .int .i32 (c 2), .int .i32 (c 3)]) (t := t) rfl).vec j hj
  simpa using this

theorem unpack_bad (f : Int) (v : Value) (w : World) (h : f < 1 ∨ 7 < f) :
    Calls Try.prog 34 #[.int .i64 f, v] w fun e w' => e = .returned (.tuple #[.agg #[.int .i32 (nul 0), .int .i32 (nul 1), .int .i32 (nul 2), .int .i32 (nul 3)], .int .i64 2]) ∧ Ext w w' := by
  go_enter Try.func34, Try.ntmps34
  go_wp2_with fail
  refine (find_bad f _ h).mono ?_
  rintro e w1 ⟨rfl, hx⟩
  have B := hide (Blk.ext (Blk.at (w := w) (b := w.heap.size) rfl) hx)
  have X := hide (((Ext.refl w).alloc _).trans hx)
  clear hx
  go_wp2_with (first
    | refine wpList_store_last rfl 75 (.tmp 6) (.tmp 11) rfl _ rfl (layF 0) rfl 19 size60 (layF_size _) rfl (layF_one _) ?_
    | refine wpList_store_row rfl 30 (.tmp 4) (.tmp 15) rfl w.heap.size #[.int .i32 (nul 0), .int .i32 (nul 1), .int .i32 (nul 2), .int .i32 (nul 3)] rfl rfl 30 _ ((unhide B).alloc _) size35 rfl (vec_one _) ?_)
  refine bodyPost_ret (v := .tuple #[.agg #[.int .i32 (nul 0), .int .i32 (nul 1), .int .i32 (nul 2), .int .i32 (nul 3)], .int .i64 2]) (results_cell_tmp Try.results34 _ _ w.heap.size 30 _ _ rfl _ rfl (((unhide B).alloc _).row) Try.underlying30 rfl size35) rfl ⟨rfl, ?_⟩
  exact ext_row ((unhide X).alloc _) (Nat.le_refl _)

theorem unpack_off (f : Nat) (ao : Option Addr) (n cap : Nat) (w : World) (h1 : 1 ≤ f) (h7 : f ≤ 7) (hn : n ≠ siz f) :
    Calls Try.prog 34 #[.int .i64 (f : Int), .slice ao n cap] w fun e w' => e = .returned (.tuple #[.agg #[.int .i32 (nul 0), .int .i32 (nul 1), .int .i32 (nul 2), .int .i32 (nul 3)], .int .i64 7]) ∧ Ext w w' := by
  have hd : ((n : Int) != (siz f : Int)) = true := by simp; omega
  go_enter Try.func34, Try.ntmps34
  go_wp2_with fail
  refine (find_any f _ h1 h7).mono ?_
  rintro e w1 ⟨rfl, hx⟩
  have B := hide (Blk.ext (Blk.at (w := w) (b := w.heap.size) rfl) hx)
  have X := hide (((Ext.refl w).alloc _).trans hx)
  have c1 : (w1.alloc (.cells (layF f) 75)).cell? ⟨w1.heap.size, 1, none⟩ = some (.int .i64 (siz f : Int)) := (Blk.at rfl).cell rfl
  clear hx
  go_wp2_with (first
    | refine wpList_store_last rfl 75 (.tmp 6) (.tmp 11) rfl _ rfl (layF f) rfl 19 size60 (layF_size _) rfl (layF_one _) ?_
    | refine wpList_store_row rfl 30 (.tmp 4) (.tmp 22) rfl w.heap.size #[.int .i32 (nul 0), .int .i32 (nul 1), .int .i32 (nul 2), .int .i32 (nul 3)] rfl rfl 30 _ ((unhide B).alloc _) size35 rfl (vec_one _) ?_)
  refine bodyPost_ret (v := .tuple #[.agg #[.int .i32 (nul 0), .int .i32 (nul 1), .int .i32 (nul 2), .int .i32 (nul 3)], .int .i64 7]) (results_cell_tmp Try.results34 _ _ w.heap.size 30 _ _ rfl _ rfl (((unhide B).alloc _).row) Try.underlying30 rfl size35) rfl ⟨rfl, ?_⟩
  exact ext_row ((unhide X).alloc _) (Nat.le_refl _)

theorem unpack_any (f : Nat) (ao : Option Addr) (cap : Nat) (xs : List Int) (w : World) (h1 : 1 ≤ f) (h7 : f ≤ 7) (hr : Row .u8 w (.slice ao xs.length cap) xs) (hB : Byt xs) (hl : xs.length = siz f) :
    Calls Try.prog 34 #[.int .i64 (f : Int), .slice ao xs.length cap] w fun e w' => e = .returned (.tuple #[.agg #[.int .i32 (colN f (numOf xs) 0), .int .i32 (colN f (numOf xs) 1), .int .i32 (colN f (numOf xs) 2), .int .i32 (colN f (numOf xs) 3)], .int .i64 0]) ∧ Ext w w' := by
  have hd : ((xs.length : Int) != (siz f : Int)) = false := by simp; omega
  have HL := hide hl
  clear hl
  go_enter Try.func34, Try.ntmps34
  go_wp2_with fail
  refine (find_any f _ h1 h7).mono ?_
  rintro e w1 ⟨rfl, hx⟩
  have B := hide (Blk.ext (Blk.at (w := w) (b := w.heap.size) rfl) hx)
  have X := hide (((Ext.refl w).alloc _).trans hx)
  have HR := hide (hr.ext (((Ext.refl w).alloc _).trans hx))
  have c1 : (w1.alloc (.cells (layF f) 75)).cell? ⟨w1.heap.size, 1, none⟩ = some (.int .i64 (siz f : Int)) := (Blk.at rfl).cell rfl
  clear hx hr
  go_wp2_with (first
    | refine wpList_store_last rfl 75 (.tmp 6) (.tmp 11) rfl _ rfl (layF f) rfl 19 size60 (layF_size _) rfl (layF_one _) ?_
    | refine wpList_load_row rfl 75 (.tmp 6) rfl w1.heap.size rfl 75 (layF f) (0, 0) _ (heap_alloc_last w1 _) Try.underlying75 rfl size60 ?_
    | fail)
  refine (colour_any f ao cap xs _ h1 h7 ((unhide HR).ext ((Ext.refl w1).alloc _)) hB (unhide HL)).mono ?_
  rintro e w2 ⟨rfl, hx⟩
  have B2 := hide (((unhide B).alloc _).ext hx)
  have X2 := hide (((unhide X).alloc _).trans hx)
  clear hx B X c1
  go_wp2_with (refine wpList_store_row rfl 30 (.tmp 4) (.tmp 25) rfl w.heap.size #[.int .i32 (colN f (numOf xs) 0), .int .i32 (colN f (numOf xs) 1), .int .i32 (colN f (numOf xs) 2), .int .i32 (colN f (numOf xs) 3)] rfl rfl 30 _ (unhide B2) size35 rfl (vec_one _) ?_)
  refine bodyPost_ret (v := .tuple #[.agg #[.int .i32 (colN f (numOf xs) 0), .int .i32 (colN f (numOf xs) 1), .int .i32 (colN f (numOf xs) 2), .int .i32 (colN f (numOf xs) 3)], .int .i64 0]) (results_cell_tmp Try.results34 _ _ w.heap.size 30 _ _ rfl _ rfl (unhide B2).row Try.underlying30 rfl size35) rfl ⟨rfl, ?_⟩
  exact ext_row (unhide X2) (Nat.le_refl _)
end Go.Proofs.Ytadajaoidhbmgaa
