/-
  Codes: the walk of just. What the dump lacks is left out.
-/
import Derived.Test.YtglfhmlcmffoaaaGreatCG
import Derived.Deep.RegionHeld3
namespace Go.Proofs.YtglfhmlcmffoaaaGreat
open Go.RowKit
set_option linter.unusedVariables false
set_option linter.unusedSimpArgs false

theorem Blk.rng {w : World} {b : Nat} {cs : Array Value} {t : TypeId} (h : Blk w b cs t) : w.rangeAt b 0 cs.toList := by
  intro j v hv
  rw [Nat.zero_add]
  exact h.cell (by simpa using hv)

set_option maxRecDepth 10000 in
set_option maxHeartbeats 4000000 in
theorem just_1 (I : Nat → Int) (w : World) (h0 : I 0 = 1) : Calls Tryz.prog 96 #[.agg (insA I)] w fun e w' => e = .returned (.agg (insA (justP I))) ∧ Ext w w' := by
  have E : Hid (insA (justP I) = #[.int .i64 (1), .int .i64 (0), .int .i64 (0), .int .i64 (0), .int .i64 (I 4), .int .i64 (0), .int .i64 (0), .int .i64 (0), .int .i32 (I 8), .int .i32 (I 9), .int .i32 (I 10), .int .i32 (I 11), .int .i64 (0), .int .i64 (0), .int .i64 (0), .int .i64 (0)]) := by simp [Hid, insA, justP, keeps, wrB, h0]
  rw [unhide E]
  have HB := hide (Blk.new w (insA I) 59)
  obtain ⟨i0, i1, i2, i3, i4, i5, i6, i7⟩ := cellJ (((unhide HB).alloc (.cells #[.int .i64 0, .int .i64 0, .int .i64 0, .int .i64 0, .int .i64 0, .int .i64 0, .int .i64 0, .int .i64 0, .int .i32 0, .int .i32 0, .int .i32 0, .int .i32 0, .int .i64 0, .int .i64 0, .int .i64 0, .int .i64 0] 59)))
  obtain ⟨i8, i9, i10, i11⟩ := cellM (((unhide HB).alloc (.cells #[.int .i64 0, .int .i64 0, .int .i64 0, .int .i64 0, .int .i64 0, .int .i64 0, .int .i64 0, .int .i64 0, .int .i32 0, .int .i32 0, .int .i32 0, .int .i32 0, .int .i64 0, .int .i64 0, .int .i64 0, .int .i64 0] 59)))
  have HR : Hid (Blk ((w.alloc (.cells (insA I) 59)).alloc (.cells #[.int .i64 0, .int .i64 0, .int .i64 0, .int .i64 0, .int .i64 0, .int .i64 0, .int .i64 0, .int .i64 0, .int .i32 0, .int .i32 0, .int .i32 0, .int .i32 0, .int .i64 0, .int .i64 0, .int .i64 0, .int .i64 0] 59)) (w.heap.size + 1) #[.int .i64 0, .int .i64 0, .int .i64 0, .int .i64 0, .int .i64 0, .int .i64 0, .int .i64 0, .int .i64 0, .int .i32 0, .int .i32 0, .int .i32 0, .int .i32 0, .int .i64 0, .int .i64 0, .int .i64 0, .int .i64 0] 59) := Blk.here (by simp)
  have HX := hide (((Ext.refl w).alloc (.cells (insA I) 59)).alloc (.cells #[.int .i64 0, .int .i64 0, .int .i64 0, .int .i64 0, .int .i64 0, .int .i64 0, .int .i64 0, .int .i64 0, .int .i32 0, .int .i32 0, .int .i32 0, .int .i32 0, .int .i64 0, .int .i64 0, .int .i64 0, .int .i64 0] 59))
  rw [h0] at i0
  clear h0 E HB
  go_enter Tryz.func96, Tryz.ntmps96
  go_wp2_with (first
    | refine wpList_buildTo rfl 59 _ rfl (some 13) rfl #[.int .i64 (1), .int .i64 (0), .int .i64 (0), .int .i64 (0), .int .i64 (I 4), .int .i64 (0), .int .i64 (0), .int .i64 (0), .int .i32 (I 8), .int .i32 (I 9), .int .i32 (I 10), .int .i32 (I 11), .int .i64 (0), .int .i64 (0), .int .i64 (0), .int .i64 (0)] (by kernel_rfl) ?_
    | refine wpList_store_row rfl 59 (.tmp 2) (.tmp 13) rfl (w.heap.size + 1) #[.int .i64 (1), .int .i64 (0), .int .i64 (0), .int .i64 (0), .int .i64 (I 4), .int .i64 (0), .int .i64 (0), .int .i64 (0), .int .i32 (I 8), .int .i32 (I 9), .int .i32 (I 10), .int .i32 (I 11), .int .i64 (0), .int .i64 (0), .int .i64 (0), .int .i64 (0)] rfl rfl 59 _ (unhide HR) sizeI16 rfl (by simp [Value.oneCell']) ?_)
  exact bodyPost_ret (v := .agg #[.int .i64 (1), .int .i64 (0), .int .i64 (0), .int .i64 (0), .int .i64 (I 4), .int .i64 (0), .int .i64 (0), .int .i64 (0), .int .i32 (I 8), .int .i32 (I 9), .int .i32 (I 10), .int .i32 (I 11), .int .i64 (0), .int .i64 (0), .int .i64 (0), .int .i64 (0)]) (results_cell_row Tryz.results96 _ _ (w.heap.size + 1) 59 _ (0, 0) _ rfl ((unhide HR).rowC) Tryz.underlying59 rfl sizeI16) rfl ⟨rfl, extRow (unhide HX) (by omega)⟩

set_option maxRecDepth 10000 in
set_option maxHeartbeats 4000000 in
theorem just_2 (I : Nat → Int) (w : World) (h0 : I 0 = 2) : Calls Tryz.prog 96 #[.agg (insA I)] w fun e w' => e = .returned (.agg (insA (justP I))) ∧ Ext w w' := by
  have E : Hid (insA (justP I) = #[.int .i64 (2), .int .i64 (0), .int .i64 (0), .int .i64 (0), .int .i64 (I 4), .int .i64 (I 5), .int .i64 (0), .int .i64 (0), .int .i32 (0), .int .i32 (0), .int .i32 (0), .int .i32 (0), .int .i64 (0), .int .i64 (0), .int .i64 (0), .int .i64 (0)]) := by simp [Hid, insA, justP, keeps, wrB, h0]
  rw [unhide E]
  have HB := hide (Blk.new w (insA I) 59)
  obtain ⟨i0, i1, i2, i3, i4, i5, i6, i7⟩ := cellJ (((unhide HB).alloc (.cells #[.int .i64 0, .int .i64 0, .int .i64 0, .int .i64 0, .int .i64 0, .int .i64 0, .int .i64 0, .int .i64 0, .int .i32 0, .int .i32 0, .int .i32 0, .int .i32 0, .int .i64 0, .int .i64 0, .int .i64 0, .int .i64 0] 59)))
  obtain ⟨i8, i9, i10, i11⟩ := cellM (((unhide HB).alloc (.cells #[.int .i64 0, .int .i64 0, .int .i64 0, .int .i64 0, .int .i64 0, .int .i64 0, .int .i64 0, .int .i64 0, .int .i32 0, .int .i32 0, .int .i32 0, .int .i32 0, .int .i64 0, .int .i64 0, .int .i64 0, .int .i64 0] 59)))
  have HR : Hid (Blk ((w.alloc (.cells (insA I) 59)).alloc (.cells #[.int .i64 0, .int .i64 0, .int .i64 0, .int .i64 0, .int .i64 0, .int .i64 0, .int .i64 0, .int .i64 0, .int .i32 0, .int .i32 0, .int .i32 0, .int .i32 0, .int .i64 0, .int .i64 0, .int .i64 0, .int .i64 0] 59)) (w.heap.size + 1) #[.int .i64 0, .int .i64 0, .int .i64 0, .int .i64 0, .int .i64 0, .int .i64 0, .int .i64 0, .int .i64 0, .int .i32 0, .int .i32 0, .int .i32 0, .int .i32 0, .int .i64 0, .int .i64 0, .int .i64 0, .int .i64 0] 59) := Blk.here (by simp)
  have HX := hide (((Ext.refl w).alloc (.cells (insA I) 59)).alloc (.cells #[.int .i64 0, .int .i64 0, .int .i64 0, .int .i64 0, .int .i64 0, .int .i64 0, .int .i64 0, .int .i64 0, .int .i32 0, .int .i32 0, .int .i32 0, .int .i32 0, .int .i64 0, .int .i64 0, .int .i64 0, .int .i64 0] 59))
  rw [h0] at i0
  clear h0 E HB
  go_enter Tryz.func96, Tryz.ntmps96
  go_wp2_with (first
    | refine wpList_buildTo rfl 59 _ rfl (some 22) rfl #[.int .i64 (2), .int .i64 (0), .int .i64 (0), .int .i64 (0), .int .i64 (I 4), .int .i64 (I 5), .int .i64 (0), .int .i64 (0), .int .i32 (0), .int .i32 (0), .int .i32 (0), .int .i32 (0), .int .i64 (0), .int .i64 (0), .int .i64 (0), .int .i64 (0)] (by kernel_rfl) ?_
    | refine wpList_store_row rfl 59 (.tmp 2) (.tmp 22) rfl (w.heap.size + 1) #[.int .i64 (2), .int .i64 (0), .int .i64 (0), .int .i64 (0), .int .i64 (I 4), .int .i64 (I 5), .int .i64 (0), .int .i64 (0), .int .i32 (0), .int .i32 (0), .int .i32 (0), .int .i32 (0), .int .i64 (0), .int .i64 (0), .int .i64 (0), .int .i64 (0)] rfl rfl 59 _ (unhide HR) sizeI16 rfl (by simp [Value.oneCell']) ?_)
  exact bodyPost_ret (v := .agg #[.int .i64 (2), .int .i64 (0), .int .i64 (0), .int .i64 (0), .int .i64 (I 4), .int .i64 (I 5), .int .i64 (0), .int .i64 (0), .int .i32 (0), .int .i32 (0), .int .i32 (0), .int .i32 (0), .int .i64 (0), .int .i64 (0), .int .i64 (0), .int .i64 (0)]) (results_cell_row Tryz.results96 _ _ (w.heap.size + 1) 59 _ (0, 0) _ rfl ((unhide HR).rowC) Tryz.underlying59 rfl sizeI16) rfl ⟨rfl, extRow (unhide HX) (by omega)⟩

set_option maxRecDepth 10000 in
set_option maxHeartbeats 4000000 in
theorem just_3 (I : Nat → Int) (w : World) (h0 : I 0 = 3) : Calls Tryz.prog 96 #[.agg (insA I)] w fun e w' => e = .returned (.agg (insA (justP I))) ∧ Ext w w' := by
  have E : Hid (insA (justP I) = #[.int .i64 (3), .int .i64 (I 1), .int .i64 (0), .int .i64 (0), .int .i64 (I 4), .int .i64 (I 5), .int .i64 (0), .int .i64 (0), .int .i32 (0), .int .i32 (0), .int .i32 (0), .int .i32 (0), .int .i64 (0), .int .i64 (0), .int .i64 (0), .int .i64 (0)]) := by simp [Hid, insA, justP, keeps, wrB, h0]
  rw [unhide E]
  have HB := hide (Blk.new w (insA I) 59)
  obtain ⟨i0, i1, i2, i3, i4, i5, i6, i7⟩ := cellJ (((unhide HB).alloc (.cells #[.int .i64 0, .int .i64 0, .int .i64 0, .int .i64 0, .int .i64 0, .int .i64 0, .int .i64 0, .int .i64 0, .int .i32 0, .int .i32 0, .int .i32 0, .int .i32 0, .int .i64 0, .int .i64 0, .int .i64 0, .int .i64 0] 59)))
  obtain ⟨i8, i9, i10, i11⟩ := cellM (((unhide HB).alloc (.cells #[.int .i64 0, .int .i64 0, .int .i64 0, .int .i64 0, .int .i64 0, .int .i64 0, .int .i64 0, .int .i64 0, .int .i32 0, .int .i32 0, .int .i32 0, .int .i32 0, .int .i64 0, .int .i64 0, .int .i64 0, .int .i64 0] 59)))
  have HR : Hid (Blk ((w.alloc (.cells (insA I) 59)).alloc (.cells #[.int .i64 0, .int .i64 0, .int .i64 0, .int .i64 0, .int .i64 0, .int .i64 0, .int .i64 0, .int .i64 0, .int .i32 0, .int .i32 0, .int .i32 0, .int .i32 0, .int .i64 0, .int .i64 0, .int .i64 0, .int .i64 0] 59)) (w.heap.size + 1) #[.int .i64 0, .int .i64 0, .int .i64 0, .int .i64 0, .int .i64 0, .int .i64 0, .int .i64 0, .int .i64 0, .int .i32 0, .int .i32 0, .int .i32 0, .int .i32 0, .int .i64 0, .int .i64 0, .int .i64 0, .int .i64 0] 59) := Blk.here (by simp)
  have HX := hide (((Ext.refl w).alloc (.cells (insA I) 59)).alloc (.cells #[.int .i64 0, .int .i64 0, .int .i64 0, .int .i64 0, .int .i64 0, .int .i64 0, .int .i64 0, .int .i64 0, .int .i32 0, .int .i32 0, .int .i32 0, .int .i32 0, .int .i64 0, .int .i64 0, .int .i64 0, .int .i64 0] 59))
  rw [h0] at i0
  clear h0 E HB
  go_enter Tryz.func96, Tryz.ntmps96
  go_wp2_with (first
    | refine wpList_buildTo rfl 59 _ rfl (some 33) rfl #[.int .i64 (3), .int .i64 (I 1), .int .i64 (0), .int .i64 (0), .int .i64 (I 4), .int .i64 (I 5), .int .i64 (0), .int .i64 (0), .int .i32 (0), .int .i32 (0), .int .i32 (0), .int .i32 (0), .int .i64 (0), .int .i64 (0), .int .i64 (0), .int .i64 (0)] (by kernel_rfl) ?_
    | refine wpList_store_row rfl 59 (.tmp 2) (.tmp 33) rfl (w.heap.size + 1) #[.int .i64 (3), .int .i64 (I 1), .int .i64 (0), .int .i64 (0), .int .i64 (I 4), .int .i64 (I 5), .int .i64 (0), .int .i64 (0), .int .i32 (0), .int .i32 (0), .int .i32 (0), .int .i32 (0), .int .i64 (0), .int .i64 (0), .int .i64 (0), .int .i64 (0)] rfl rfl 59 _ (unhide HR) sizeI16 rfl (by simp [Value.oneCell']) ?_)
  exact bodyPost_ret (v := .agg #[.int .i64 (3), .int .i64 (I 1), .int .i64 (0), .int .i64 (0), .int .i64 (I 4), .int .i64 (I 5), .int .i64 (0), .int .i64 (0), .int .i32 (0), .int .i32 (0), .int .i32 (0), .int .i32 (0), .int .i64 (0), .int .i64 (0), .int .i64 (0), .int .i64 (0)]) (results_cell_row Tryz.results96 _ _ (w.heap.size + 1) 59 _ (0, 0) _ rfl ((unhide HR).rowC) Tryz.underlying59 rfl sizeI16) rfl ⟨rfl, extRow (unhide HX) (by omega)⟩

set_option maxRecDepth 10000 in
set_option maxHeartbeats 4000000 in
theorem just_4 (I : Nat → Int) (w : World) (h0 : I 0 = 4) : Calls Tryz.prog 96 #[.agg (insA I)] w fun e w' => e = .returned (.agg (insA (justP I))) ∧ Ext w w' := by
  have E : Hid (insA (justP I) = #[.int .i64 (4), .int .i64 (I 1), .int .i64 (0), .int .i64 (0), .int .i64 (0), .int .i64 (I 5), .int .i64 (I 6), .int .i64 (0), .int .i32 (0), .int .i32 (0), .int .i32 (0), .int .i32 (0), .int .i64 (0), .int .i64 (0), .int .i64 (0), .int .i64 (0)]) := by simp [Hid, insA, justP, keeps, wrB, h0]
  rw [unhide E]
  have HB := hide (Blk.new w (insA I) 59)
  obtain ⟨i0, i1, i2, i3, i4, i5, i6, i7⟩ := cellJ (((unhide HB).alloc (.cells #[.int .i64 0, .int .i64 0, .int .i64 0, .int .i64 0, .int .i64 0, .int .i64 0, .int .i64 0, .int .i64 0, .int .i32 0, .int .i32 0, .int .i32 0, .int .i32 0, .int .i64 0, .int .i64 0, .int .i64 0, .int .i64 0] 59)))
  obtain ⟨i8, i9, i10, i11⟩ := cellM (((unhide HB).alloc (.cells #[.int .i64 0, .int .i64 0, .int .i64 0, .int .i64 0, .int .i64 0, .int .i64 0, .int .i64 0, .int .i64 0, .int .i32 0, .int .i32 0, .int .i32 0, .int .i32 0, .int .i64 0, .int .i64 0, .int .i64 0, .int .i64 0] 59)))
  have HR : Hid (Blk ((w.alloc (.cells (insA I) 59)).alloc (.cells #[.int .i64 0, .int .i64 0, .int .i64 0, .int .i64 0, .int .i64 0, .int .i64 0, .int .i64 0, .int .i64 0, .int .i32 0, .int .i32 0, .int .i32 0, .int .i32 0, .int .i64 0, .int .i64 0, .int .i64 0, .int .i64 0] 59)) (w.heap.size + 1) #[.int .i64 0, .int .i64 0, .int .i64 0, .int .i64 0, .int .i64 0, .int .i64 0, .int .i64 0, .int .i64 0, .int .i32 0, .int .i32 0, .int .i32 0, .int .i32 0, .int .i64 0, .int .i64 0, .int .i64 0, .int .i64 0] 59) := Blk.here (by simp)
  have HX := hide (((Ext.refl w).alloc (.cells (insA I) 59)).alloc (.cells #[.int .i64 0, .int .i64 0, .int .i64 0, .int .i64 0, .int .i64 0, .int .i64 0, .int .i64 0, .int .i64 0, .int .i32 0, .int .i32 0, .int .i32 0, .int .i32 0, .int .i64 0, .int .i64 0, .int .i64 0, .int .i64 0] 59))
  rw [h0] at i0
  clear h0 E HB
  go_enter Tryz.func96, Tryz.ntmps96
  go_wp2_with (first
    | refine wpList_buildTo rfl 59 _ rfl (some 44) rfl #[.int .i64 (4), .int .i64 (I 1), .int .i64 (0), .int .i64 (0), .int .i64 (0), .int .i64 (I 5), .int .i64 (I 6), .int .i64 (0), .int .i32 (0), .int .i32 (0), .int .i32 (0), .int .i32 (0), .int .i64 (0), .int .i64 (0), .int .i64 (0), .int .i64 (0)] (by kernel_rfl) ?_
    | refine wpList_store_row rfl 59 (.tmp 2) (.tmp 44) rfl (w.heap.size + 1) #[.int .i64 (4), .int .i64 (I 1), .int .i64 (0), .int .i64 (0), .int .i64 (0), .int .i64 (I 5), .int .i64 (I 6), .int .i64 (0), .int .i32 (0), .int .i32 (0), .int .i32 (0), .int .i32 (0), .int .i64 (0), .int .i64 (0), .int .i64 (0), .int .i64 (0)] rfl rfl 59 _ (unhide HR) sizeI16 rfl (by simp [Value.oneCell']) ?_)
  exact bodyPost_ret (v := .agg #[.int .i64 (4), .int .i64 (I 1), .int .i64 (0), .int .i64 (0), .int .i64 (0), .int .i64 (I 5), .int .i64 (I 6), .int .i64 (0), .int .i32 (0), .int .i32 (0), .int .i32 (0), .int .i32 (0), .int .i64 (0), .int .i64 (0), .int .i64 (0), .int .i64 (0)]) (results_cell_row Tryz.results96 _ _ (w.heap.size + 1) 59 _ (0, 0) _ rfl ((unhide HR).rowC) Tryz.underlying59 rfl sizeI16) rfl ⟨rfl, extRow (unhide HX) (by omega)⟩

set_option maxRecDepth 10000 in
set_option maxHeartbeats 4000000 in
theorem just_8 (I : Nat → Int) (w : World) (h0 : I 0 = 8) : Calls Tryz.prog 96 #[.agg (insA I)] w fun e w' => e = .returned (.agg (insA (justP I))) ∧ Ext w w' := by
  have E : Hid (insA (justP I) = #[.int .i64 (8), .int .i64 (I 1), .int .i64 (I 2), .int .i64 (I 3), .int .i64 (I 4), .int .i64 (I 5), .int .i64 (0), .int .i64 (0), .int .i32 (0), .int .i32 (0), .int .i32 (0), .int .i32 (0), .int .i64 (0), .int .i64 (0), .int .i64 (0), .int .i64 (0)]) := by simp [Hid, insA, justP, keeps, wrB, h0]
  rw [unhide E]
  have HB := hide (Blk.new w (insA I) 59)
  obtain ⟨i0, i1, i2, i3, i4, i5, i6, i7⟩ := cellJ (((unhide HB).alloc (.cells #[.int .i64 0, .int .i64 0, .int .i64 0, .int .i64 0, .int .i64 0, .int .i64 0, .int .i64 0, .int .i64 0, .int .i32 0, .int .i32 0, .int .i32 0, .int .i32 0, .int .i64 0, .int .i64 0, .int .i64 0, .int .i64 0] 59)))
  obtain ⟨i8, i9, i10, i11⟩ := cellM (((unhide HB).alloc (.cells #[.int .i64 0, .int .i64 0, .int .i64 0, .int .i64 0, .int .i64 0, .int .i64 0, .int .i64 0, .int .i64 0, .int .i32 0, .int .i32 0, .int .i32 0, .int .i32 0, .int .i64 0, .int .i64 0, .int .i64 0, .int .i64 0] 59)))
  have HR : Hid (Blk ((w.alloc (.cells (insA I) 59)).alloc (.cells #[.int .i64 0, .int .i64 0, .int .i64 0, .int .i64 0, .int .i64 0, .int .i64 0, .int .i64 0, .int .i64 0, .int .i32 0, .int .i32 0, .int .i32 0, .int .i32 0, .int .i64 0, .int .i64 0, .int .i64 0, .int .i64 0] 59)) (w.heap.size + 1) #[.int .i64 0, .int .i64 0, .int .i64 0, .int .i64 0, .int .i64 0, .int .i64 0, .int .i64 0, .int .i64 0, .int .i32 0, .int .i32 0, .int .i32 0, .int .i32 0, .int .i64 0, .int .i64 0, .int .i64 0, .int .i64 0] 59) := Blk.here (by simp)
  have HX := hide (((Ext.refl w).alloc (.cells (insA I) 59)).alloc (.cells #[.int .i64 0, .int .i64 0, .int .i64 0, .int .i64 0, .int .i64 0, .int .i64 0, .int .i64 0, .int .i64 0, .int .i32 0, .int .i32 0, .int .i32 0, .int .i32 0, .int .i64 0, .int .i64 0, .int .i64 0, .int .i64 0] 59))
  rw [h0] at i0
  clear h0 E HB
  go_enter Tryz.func96, Tryz.ntmps96
  go_wp2_with (first
    | refine wpList_buildTo rfl 59 _ rfl (some 77) rfl #[.int .i64 (8), .int .i64 (I 1), .int .i64 (I 2), .int .i64 (I 3), .int .i64 (I 4), .int .i64 (I 5), .int .i64 (0), .int .i64 (0), .int .i32 (0), .int .i32 (0), .int .i32 (0), .int .i32 (0), .int .i64 (0), .int .i64 (0), .int .i64 (0), .int .i64 (0)] (by kernel_rfl) ?_
    | refine wpList_store_row rfl 59 (.tmp 2) (.tmp 77) rfl (w.heap.size + 1) #[.int .i64 (8), .int .i64 (I 1), .int .i64 (I 2), .int .i64 (I 3), .int .i64 (I 4), .int .i64 (I 5), .int .i64 (0), .int .i64 (0), .int .i32 (0), .int .i32 (0), .int .i32 (0), .int .i32 (0), .int .i64 (0), .int .i64 (0), .int .i64 (0), .int .i64 (0)] rfl rfl 59 _ (unhide HR) sizeI16 rfl (by simp [Value.oneCell']) ?_)
  exact bodyPost_ret (v := .agg #[.int .i64 (8), .int .i64 (I 1), .int .i64 (I 2), .int .i64 (I 3), .int .i64 (I 4), .int .i64 (I 5), .int .i64 (0), .int .i64 (0), .int .i32 (0), .int .i32 (0), .int .i32 (0), .int .i32 (0), .int .i64 (0), .int .i64 (0), .int .i64 (0), .int .i64 (0)]) (results_cell_row Tryz.results96 _ _ (w.heap.size + 1) 59 _ (0, 0) _ rfl ((unhide HR).rowC) Tryz.underlying59 rfl sizeI16) rfl ⟨rfl, extRow (unhide HX) (by omega)⟩

set_option maxRecDepth 10000 in
set_option maxHeartbeats 4000000 in
theorem just_9 (I : Nat → Int) (w : World) (h0 : I 0 = 9) : Calls Tryz.prog 96 #[.agg (insA I)] w fun e w' => e = .returned (.agg (insA (justP I))) ∧ Ext w w' := by
  have E : Hid (insA (justP I) = #[.int .i64 (9), .int .i64 (0), .int .i64 (0), .int .i64 (0), .int .i64 (I 4), .int .i64 (I 5), .int .i64 (I 6), .int .i64 (0), .int .i32 (0), .int .i32 (0), .int .i32 (0), .int .i32 (0), .int .i64 (0), .int .i64 (0), .int .i64 (0), .int .i64 (0)]) := by simp [Hid, insA, justP, keeps, wrB, h0]
  rw [unhide E]
  have HB := hide (Blk.new w (insA I) 59)
  obtain ⟨i0, i1, i2, i3, i4, i5, i6, i7⟩ := cellJ (((unhide HB).alloc (.cells #[.int .i64 0, .int .i64 0, .int .i64 0, .int .i64 0, .int .i64 0, .int .i64 0, .int .i64 0, .int .i64 0, .int .i32 0, .int .i32 0, .int .i32 0, .int .i32 0, .int .i64 0, .int .i64 0, .int .i64 0, .int .i64 0] 59)))
  obtain ⟨i8, i9, i10, i11⟩ := cellM (((unhide HB).alloc (.cells #[.int .i64 0, .int .i64 0, .int .i64 0, .int .i64 0, .int .i64 0, .int .i64 0, .int .i64 0, .int .i64 0, .int .i32 0, .int .i32 0, .int .i32 0, .int .i32 0, .int .i64 0, .int .i64 0, .int .i64 0, .int .i64 0] 59)))
  have HR : Hid (Blk ((w.alloc (.cells (insA I) 59)).alloc (.cells #[.int .i64 0, .int .i64 0, .int .i64 0, .int .i64 0, .int .i64 0, .int .i64 0, .int .i64 0, .int .i64 0, .int .i32 0, .int .i32 0, .int .i32 0, .int .i32 0, .int .i64 0, .int .i64 0, .int .i64 0, .int .i64 0] 59)) (w.heap.size + 1) #[.int .i64 0, .int .i64 0, .int .i64 0, .int .i64 0, .int .i64 0, .int .i64 0, .int .i64 0, .int .i64 0, .int .i32 0, .int .i32 0, .int .i32 0, .int .i32 0, .int .i64 0, .int .i64 0, .int .i64 0, .int .i64 0] 59) := Blk.here (by simp)
  have HX := hide (((Ext.refl w).alloc (.cells (insA I) 59)).alloc (.cells #[.int .i64 0, .int .i64 0, .int .i64 0, .int .i64 0, .int .i64 0, .int .i64 0, .int .i64 0, .int .i64 0, .int .i32 0, .int .i32 0, .int .i32 0, .int .i32 0, .int .i64 0, .int .i64 0, .int .i64 0, .int .i64 0] 59))
  rw [h0] at i0
  clear h0 E HB
  go_enter Tryz.func96, Tryz.ntmps96
  go_wp2_with (first
    | refine wpList_buildTo rfl 59 _ rfl (some 88) rfl #[.int .i64 (9), .int .i64 (0), .int .i64 (0), .int .i64 (0), .int .i64 (I 4), .int .i64 (I 5), .int .i64 (I 6), .int .i64 (0), .int .i32 (0), .int .i32 (0), .int .i32 (0), .int .i32 (0), .int .i64 (0), .int .i64 (0), .int .i64 (0), .int .i64 (0)] (by kernel_rfl) ?_
    | refine wpList_store_row rfl 59 (.tmp 2) (.tmp 88) rfl (w.heap.size + 1) #[.int .i64 (9), .int .i64 (0), .int .i64 (0), .int .i64 (0), .int .i64 (I 4), .int .i64 (I 5), .int .i64 (I 6), .int .i64 (0), .int .i32 (0), .int .i32 (0), .int .i32 (0), .int .i32 (0), .int .i64 (0), .int .i64 (0), .int .i64 (0), .int .i64 (0)] rfl rfl 59 _ (unhide HR) sizeI16 rfl (by simp [Value.oneCell']) ?_)
  exact bodyPost_ret (v := .agg #[.int .i64 (9), .int .i64 (0), .int .i64 (0), .int .i64 (0), .int .i64 (I 4), .int .i64 (I 5), .int .i64 (I 6), .int .i64 (0), .int .i32 (0), .int .i32 (0), .int .i32 (0), .int .i32 (0), .int .i64 (0), .int .i64 (0), .int .i64 (0), .int .i64 (0)]) (results_cell_row Tryz.results96 _ _ (w.heap.size + 1) 59 _ (0, 0) _ rfl ((unhide HR).rowC) Tryz.underlying59 rfl sizeI16) rfl ⟨rfl, extRow (unhide HX) (by omega)⟩

set_option maxRecDepth 10000 in
set_option maxHeartbeats 4000000 in
theorem just_10 (I : Nat → Int) (w : World) (h0 : I 0 = 10) : Calls Tryz.prog 96 #[.agg (insA I)] w fun e w' => e = .returned (.agg (insA (justP I))) ∧ Ext w w' := by
  have E : Hid (insA (justP I) = #[.int .i64 (10), .int .i64 (0), .int .i64 (0), .int .i64 (0), .int .i64 (0), .int .i64 (I 5), .int .i64 (0), .int .i64 (0), .int .i32 (0), .int .i32 (0), .int .i32 (0), .int .i32 (0), .int .i64 (0), .int .i64 (0), .int .i64 (0), .int .i64 (0)]) := by simp [Hid, insA, justP, keeps, wrB, h0]
  rw [unhide E]
  have HB := hide (Blk.new w (insA I) 59)
  obtain ⟨i0, i1, i2, i3, i4, i5, i6, i7⟩ := cellJ (((unhide HB).alloc (.cells #[.int .i64 0, .int .i64 0, .int .i64 0, .int .i64 0, .int .i64 0, .int .i64 0, .int .i64 0, .int .i64 0, .int .i32 0, .int .i32 0, .int .i32 0, .int .i32 0, .int .i64 0, .int .i64 0, .int .i64 0, .int .i64 0] 59)))
  obtain ⟨i8, i9, i10, i11⟩ := cellM (((unhide HB).alloc (.cells #[.int .i64 0, .int .i64 0, .int .i64 0, .int .i64 0, .int .i64 0, .int .i64 0, .int .i64 0, .int .i64 0, .int .i32 0, .int .i32 0, .int .i32 0, .int .i32 0, .int .i64 0, .int .i64 0, .int .i64 0, .int .i64 0] 59)))
  have HR : Hid (Blk ((w.alloc (.cells (insA I) 59)).alloc (.cells #[.int .i64 0, .int .i64 0, .int .i64 0, .int .i64 0, .int .i64 0, .int .i64 0, .int .i64 0, .int .i64 0, .int .i32 0, .int .i32 0, .int .i32 0, .int .i32 0, .int .i64 0, .int .i64 0, .int .i64 0, .int .i64 0] 59)) (w.heap.size + 1) #[.int .i64 0, .int .i64 0, .int .i64 0, .int .i64 0, .int .i64 0, .int .i64 0, .int .i64 0, .int .i64 0, .int .i32 0, .int .i32 0, .int .i32 0, .int .i32 0, .int .i64 0, .int .i64 0, .int .i64 0, .int .i64 0] 59) := Blk.here (by simp)
  have HX := hide (((Ext.refl w).alloc (.cells (insA I) 59)).alloc (.cells #[.int .i64 0, .int .i64 0, .int .i64 0, .int .i64 0, .int .i64 0, .int .i64 0, .int .i64 0, .int .i64 0, .int .i32 0, .int .i32 0, .int .i32 0, .int .i32 0, .int .i64 0, .int .i64 0, .int .i64 0, .int .i64 0] 59))
  rw [h0] at i0
  clear h0 E HB
  go_enter Tryz.func96, Tryz.ntmps96
  go_wp2_with (first
    | refine wpList_buildTo rfl 59 _ rfl (some 95) rfl #[.int .i64 (10), .int .i64 (0), .int .i64 (0), .int .i64 (0), .int .i64 (0), .int .i64 (I 5), .int .i64 (0), .int .i64 (0), .int .i32 (0), .int .i32 (0), .int .i32 (0), .int .i32 (0), .int .i64 (0), .int .i64 (0), .int .i64 (0), .int .i64 (0)] (by kernel_rfl) ?_
    | refine wpList_store_row rfl 59 (.tmp 2) (.tmp 95) rfl (w.heap.size + 1) #[.int .i64 (10), .int .i64 (0), .int .i64 (0), .int .i64 (0), .int .i64 (0), .int .i64 (I 5), .int .i64 (0), .int .i64 (0), .int .i32 (0), .int .i32 (0), .int .i32 (0), .int .i32 (0), .int .i64 (0), .int .i64 (0), .int .i64 (0), .int .i64 (0)] rfl rfl 59 _ (unhide HR) sizeI16 rfl (by simp [Value.oneCell']) ?_)
  exact bodyPost_ret (v := .agg #[.int .i64 (10), .int .i64 (0), .int .i64 (0), .int .i64 (0), .int .i64 (0), .int .i64 (I 5), .int .i64 (0), .int .i64 (0), .int .i32 (0), .int .i32 (0), .int .i32 (0), .int .i32 (0), .int .i64 (0), .int .i64 (0), .int .i64 (0), .int .i64 (0)]) (results_cell_row Tryz.results96 _ _ (w.heap.size + 1) 59 _ (0, 0) _ rfl ((unhide HR).rowC) Tryz.underlying59 rfl sizeI16) rfl ⟨rfl, extRow (unhide HX) (by omega)⟩

set_option maxRecDepth 10000 in
set_option maxHeartbeats 4000000 in
theorem just_11 (I : Nat → Int) (w : World) (h0 : I 0 = 11) : Calls Tryz.prog 96 #[.agg (insA I)] w fun e w' => e = .returned (.agg (insA (justP I))) ∧ Ext w w' := by
  have E : Hid (insA (justP I) = #[.int .i64 (11), .int .i64 (0), .int .i64 (0), .int .i64 (0), .int .i64 (0), .int .i64 (I 5), .int .i64 (I 6), .int .i64 (0), .int .i32 (0), .int .i32 (0), .int .i32 (0), .int .i32 (0), .int .i64 (0), .int .i64 (0), .int .i64 (0), .int .i64 (0)]) := by simp [Hid, insA, justP, keeps, wrB, h0]
  rw [unhide E]
  have HB := hide (Blk.new w (insA I) 59)
  obtain ⟨i0, i1, i2, i3, i4, i5, i6, i7⟩ := cellJ (((unhide HB).alloc (.cells #[.int .i64 0, .int .i64 0, .int .i64 0, .int .i64 0, .int .i64 0, .int .i64 0, .int .i64 0, .int .i64 0, .int .i32 0, .int .i32 0, .int .i32 0, .int .i32 0, .int .i64 0, .int .i64 0, .int .i64 0, .int .i64 0] 59)))
  obtain ⟨i8, i9, i10, i11⟩ := cellM (((unhide HB).alloc (.cells #[.int .i64 0, .int .i64 0, .int .i64 0, .int .i64 0, .int .i64 0, .int .i64 0, .int .i64 0, .int .i64 0, .int .i32 0, .int .i32 0, .int .i32 0, .int .i32 0, .int .i64 0, .int .i64 0, .int .i64 0, .int .i64 0] 59)))
  have HR : Hid (Blk ((w.alloc (.cells (insA I) 59)).alloc (.cells #[.int .i64 0, .int .i64 0, .int .i64 0, .int .i64 0, .int .i64 0, .int .i64 0, .int .i64 0, .int .i64 0, .int .i32 0, .int .i32 0, .int .i32 0, .int .i32 0, .int .i64 0, .int .i64 0, .int .i64 0, .int .i64 0] 59)) (w.heap.size + 1) #[.int .i64 0, .int .i64 0, .int .i64 0, .int .i64 0, .int .i64 0, .int .i64 0, .int .i64 0, .int .i64 0, .int .i32 0, .int .i32 0, .int .i32 0, .int .i32 0, .int .i64 0, .int .i64 0, .int .i64 0, .int .i64 0] 59) := Blk.here (by simp)
  have HX := hide (((Ext.refl w).alloc (.cells (insA I) 59)).alloc (.cells #[.int .i64 0, .int .i64 0, .int .i64 0, .int .i64 0, .int .i64 0, .int .i64 0, .int .i64 0, .int .i64 0, .int .i32 0, .int .i32 0, .int .i32 0, .int .i32 0, .int .i64 0, .int .i64 0, .int .i64 0, .int .i64 0] 59))
  rw [h0] at i0
  clear h0 E HB
  go_enter Tryz.func96, Tryz.ntmps96
  go_wp2_with (first
    | refine wpList_buildTo rfl 59 _ rfl (some 104) rfl #[.int .i64 (11), .int .i64 (0), .int .i64 (0), .int .i64 (0), .int .i64 (0), .int .i64 (I 5), .int .i64 (I 6), .int .i64 (0), .int .i32 (0), .int .i32 (0), .int .i32 (0), .int .i32 (0), .int .i64 (0), .int .i64 (0), .int .i64 (0), .int .i64 (0)] (by kernel_rfl) ?_
    | refine wpList_store_row rfl 59 (.tmp 2) (.tmp 104) rfl (w.heap.size + 1) #[.int .i64 (11), .int .i64 (0), .int .i64 (0), .int .i64 (0), .int .i64 (0), .int .i64 (I 5), .int .i64 (I 6), .int .i64 (0), .int .i32 (0), .int .i32 (0), .int .i32 (0), .int .i32 (0), .int .i64 (0), .int .i64 (0), .int .i64 (0), .int .i64 (0)] rfl rfl 59 _ (unhide HR) sizeI16 rfl (by simp [Value.oneCell']) ?_)
  exact bodyPost_ret (v := .agg #[.int .i64 (11), .int .i64 (0), .int .i64 (0), .int .i64 (0), .int .i64 (0), .int .i64 (I 5), .int .i64 (I 6), .int .i64 (0), .int .i32 (0), .int .i32 (0), .int .i32 (0), .int .i32 (0), .int .i64 (0), .int .i64 (0), .int .i64 (0), .int .i64 (0)]) (results_cell_row Tryz.results96 _ _ (w.heap.size + 1) 59 _ (0, 0) _ rfl ((unhide HR).rowC) Tryz.underlying59 rfl sizeI16) rfl ⟨rfl, extRow (unhide HX) (by omega)⟩

set_option maxRecDepth 10000 in
set_option maxHeartbeats 4000000 in
theorem just_none (I : Nat → Int) (w : World) (h0 : I 0 < 1 ∨ 11 < I 0) : Calls Tryz.prog 96 #[.agg (insA I)] w fun e w' => e = .returned (.agg (insA (justP I))) ∧ Ext w w' := by
  have E : Hid (insA (justP I) = #[.int .i64 (I 0), .int .i64 (0), .int .i64 (0), .int .i64 (0), .int .i64 (0), .int .i64 (0), .int .i64 (0), .int .i64 (0), .int .i32 (0), .int .i32 (0), .int .i32 (0), .int .i32 (0), .int .i64 (0), .int .i64 (0), .int .i64 (0), .int .i64 (0)]) := by
    have h1 : ∀ c : Int, 1 ≤ c → c ≤ 11 → ¬ I 0 = c := fun c h1 h2 => by omega
    simp [Hid, insA, justP, keeps, wrB, h1]
  rw [unhide E]
  have d1 : (I 0 == 1) = false := beq_eq_false_iff_ne.2 (by omega)
  have d2 : (I 0 == 2) = false := beq_eq_false_iff_ne.2 (by omega)
  have d3 : (I 0 == 3) = false := beq_eq_false_iff_ne.2 (by omega)
  have d4 : (I 0 == 4) = false := beq_eq_false_iff_ne.2 (by omega)
  have d5 : (I 0 == 5) = false := beq_eq_false_iff_ne.2 (by omega)
  have d6 : (I 0 == 6) = false := beq_eq_false_iff_ne.2 (by omega)
  have d7 : (I 0 == 7) = false := beq_eq_false_iff_ne.2 (by omega)
  have d8 : (I 0 == 8) = false := beq_eq_false_iff_ne.2 (by omega)
  have d9 : (I 0 == 9) = false := beq_eq_false_iff_ne.2 (by omega)
  have d10 : (I 0 == 10) = false := beq_eq_false_iff_ne.2 (by omega)
  have d11 : (I 0 == 11) = false := beq_eq_false_iff_ne.2 (by omega)
  have HB := hide (Blk.new w (insA I) 59)
  obtain ⟨i0, i1, i2, i3, i4, i5, i6, i7⟩ := cellJ (((unhide HB).alloc (.cells #[.int .i64 0, .int .i64 0, .int .i64 0, .int .i64 0, .int .i64 0, .int .i64 0, .int .i64 0, .int .i64 0, .int .i32 0, .int .i32 0, .int .i32 0, .int .i32 0, .int .i64 0, .int .i64 0, .int .i64 0, .int .i64 0] 59)))
  obtain ⟨i8, i9, i10, i11⟩ := cellM (((unhide HB).alloc (.cells #[.int .i64 0, .int .i64 0, .int .i64 0, .int .i64 0, .int .i64 0, .int .i64 0, .int .i64 0, .int .i64 0, .int .i32 0, .int .i32 0, .int .i32 0, .int .i32 0, .int .i64 0, .int .i64 0, .int .i64 0, .int .i64 0] 59)))
  have HR : Hid (Blk ((w.alloc (.cells (insA I) 59)).alloc (.cells #[.int .i64 0, .int .i64 0, .int .i64 0, .int .i64 0, .int .i64 0, .int .i64 0, .int .i64 0, .int .i64 0, .int .i32 0, .int .i32 0, .int .i32 0, .int .i32 0, .int .i64 0, .int .i64 0, .int .i64 0, .int .i64 0] 59)) (w.heap.size + 1) #[.int .i64 0, .int .i64 0, .int .i64 0, .int .i64 0, .int .i64 0, .int .i64 0, .int .i64 0, .int .i64 0, .int .i32 0, .int .i32 0, .int .i32 0, .int .i32 0, .int .i64 0, .int .i64 0, .int .i64 0, .int .i64 0] 59) := Blk.here (by simp)
  have HX := hide (((Ext.refl w).alloc (.cells (insA I) 59)).alloc (.cells #[.int .i64 0, .int .i64 0, .int .i64 0, .int .i64 0, .int .i64 0, .int .i64 0, .int .i64 0, .int .i64 0, .int .i32 0, .int .i32 0, .int .i32 0, .int .i32 0, .int .i64 0, .int .i64 0, .int .i64 0, .int .i64 0] 59))
  clear h0 E HB
  generalize I 0 = o at *
  go_enter Tryz.func96, Tryz.ntmps96
  go_wp2_with (first
    | refine wpList_buildTo rfl 59 _ rfl (some 107) rfl #[.int .i64 (o), .int .i64 (0), .int .i64 (0), .int .i64 (0), .int .i64 (0), .int .i64 (0), .int .i64 (0), .int .i64 (0), .int .i32 (0), .int .i32 (0), .int .i32 (0), .int .i32 (0), .int .i64 (0), .int .i64 (0), .int .i64 (0), .int .i64 (0)] (by kernel_rfl) ?_
    | refine wpList_store_row rfl 59 (.tmp 2) (.tmp 107) rfl (w.heap.size + 1) #[.int .i64 (o), .int .i64 (0), .int .i64 (0), .int .i64 (0), .int .i64 (0), .int .i64 (0), .int .i64 (0), .int .i64 (0), .int .i32 (0), .int .i32 (0), .int .i32 (0), .int .i32 (0), .int .i64 (0), .int .i64 (0), .int .i64 (0), .int .i64 (0)] rfl rfl 59 _ (unhide HR) sizeI16 rfl (by simp [Value.oneCell']) ?_)
  exact bodyPost_ret (v := .agg #[.int .i64 (o), .int .i64 (0), .int .i64 (0), .int .i64 (0), .int .i64 (0), .int .i64 (0), .int .i64 (0), .int .i64 (0), .int .i32 (0), .int .i32 (0), .int .i32 (0), .int .i32 (0), .int .i64 (0), .int .i64 (0), .int .i64 (0), .int .i64 (0)]) (results_cell_row Tryz.results96 _ _ (w.heap.size + 1) 59 _ (0, 0) _ rfl ((unhide HR).rowC) Tryz.underlying59 rfl sizeI16) rfl ⟨rfl, extRow (unhide HX) (by omega)⟩

set_option maxRecDepth 10000 in
set_option maxHeartbeats 4000000 in
theorem just_5 (I : Nat → Int) (w : World) (h0 : I 0 = 5) : Calls Tryz.prog 96 #[.agg (insA I)] w fun e w' => e = .returned (.agg (insA (justP I))) ∧ Ext w w' := by
  have HJ := hide (fun wx => justDo_any I wx h0)
  have H1 := hide (insA_one (justP I))
  have HB := hide (Blk.new w (insA I) 59)
  obtain ⟨i0, i1, i2, i3, i4, i5, i6, i7⟩ := cellJ (((unhide HB).alloc (.cells #[.int .i64 0, .int .i64 0, .int .i64 0, .int .i64 0, .int .i64 0, .int .i64 0, .int .i64 0, .int .i64 0, .int .i32 0, .int .i32 0, .int .i32 0, .int .i32 0, .int .i64 0, .int .i64 0, .int .i64 0, .int .i64 0] 59)))
  obtain ⟨i8, i9, i10, i11⟩ := cellM (((unhide HB).alloc (.cells #[.int .i64 0, .int .i64 0, .int .i64 0, .int .i64 0, .int .i64 0, .int .i64 0, .int .i64 0, .int .i64 0, .int .i32 0, .int .i32 0, .int .i32 0, .int .i32 0, .int .i64 0, .int .i64 0, .int .i64 0, .int .i64 0] 59)))
  have HR : Hid (Blk ((w.alloc (.cells (insA I) 59)).alloc (.cells #[.int .i64 0, .int .i64 0, .int .i64 0, .int .i64 0, .int .i64 0, .int .i64 0, .int .i64 0, .int .i64 0, .int .i32 0, .int .i32 0, .int .i32 0, .int .i32 0, .int .i64 0, .int .i64 0, .int .i64 0, .int .i64 0] 59)) (w.heap.size + 1) #[.int .i64 0, .int .i64 0, .int .i64 0, .int .i64 0, .int .i64 0, .int .i64 0, .int .i64 0, .int .i64 0, .int .i32 0, .int .i32 0, .int .i32 0, .int .i32 0, .int .i64 0, .int .i64 0, .int .i64 0, .int .i64 0] 59) := Blk.here (by simp)
  have HX := hide (((Ext.refl w).alloc (.cells (insA I) 59)).alloc (.cells #[.int .i64 0, .int .i64 0, .int .i64 0, .int .i64 0, .int .i64 0, .int .i64 0, .int .i64 0, .int .i64 0, .int .i32 0, .int .i32 0, .int .i32 0, .int .i32 0, .int .i64 0, .int .i64 0, .int .i64 0, .int .i64 0] 59))
  rw [h0] at i0
  clear h0
  go_enter Tryz.func96, Tryz.ntmps96
  go_wp2_with (first
    | refine wpList_load_row rfl 59 (.tmp 1) rfl w.heap.size rfl 59 (insA I) (0, 0) _ ((unhide HB).alloc _) Tryz.underlying59 rfl sizeI16 ?_
    | (go_at_call 9999))
  refine (unhide HJ _).mono ?_
  rintro e w3 ⟨rfl, hx3⟩
  have HR3 := hide ((unhide HR).ext hx3)
  have HX3 := hide ((unhide HX).trans hx3)
  clear hx3 HR HX HB HJ i0 i1 i2 i3 i4 i5 i6 i7 i8 i9 i10 i11
  go_wp2_with (refine wpList_store_row rfl 59 (.tmp 2) (.tmp 48) rfl (w.heap.size + 1) (insA (justP I)) rfl rfl 59 _ (unhide HR3) sizeI16 rfl (unhide H1) ?_)
  exact bodyPost_ret (v := .agg (insA (justP I))) (results_cell_row Tryz.results96 _ _ (w.heap.size + 1) 59 _ (0, 0) _ rfl ((unhide HR3).rowC) Tryz.underlying59 rfl sizeI16) rfl ⟨rfl, extRow (unhide HX3) (by omega)⟩

def plcN (I : Nat → Int) (j : Nat) : Int := if (j : Int) < I 3 then I (12 + j) else 0
/-- What stands while a region of just draws. -/
def St3 (w : World) (I : Nat → Int) (wx : World) : Prop := Ext w wx ∧ Blk wx w.heap.size (insA I) 59 ∧ ∃ r : Array Value, r.size = 16 ∧ Blk wx (w.heap.size + 1) r 59
theorem St3.ext {w : World} {I : Nat → Int} {w1 w2 : World} (h : St3 w I w1) (hx : Ext w1 w2) : St3 w I w2 := by
  obtain ⟨h1, h2, r, h3, h4⟩ := h
  exact ⟨h1.trans hx, h2.ext hx, r, h3, h4.ext hx⟩
theorem St3.put {w : World} {I : Nat → Int} {w1 : World} (h : St3 w I w1) (cs : Array Value) (hc : cs.size = 16) : St3 w I (w1.setRow (w.heap.size + 1) cs) := by
  obtain ⟨h1, h2, r, h3, h4⟩ := h
  exact ⟨extRow h1 (by omega), h2.rowO (by omega), cs, hc, h4.rowC⟩

set_option maxRecDepth 10000 in
set_option maxHeartbeats 4000000 in
theorem just_6 (I : Nat → Int) (w : World) (h0 : I 0 = 6) : Calls Tryz.prog 96 #[.agg (insA I)] w fun e w' => e = .returned (.agg (insA (justP I))) ∧ Ext w w' := by
  have E : Hid (insA (justP I) = #[.int .i64 6, .int .i64 0, .int .i64 0, .int .i64 (I 3), .int .i64 (I 4), .int .i64 (I 5), .int .i64 0, .int .i64 0, .int .i32 0, .int .i32 0, .int .i32 0, .int .i32 0, .int .i64 (plcN I 0), .int .i64 (plcN I 1), .int .i64 (plcN I 2), .int .i64 (plcN I 3)]) := by simp [Hid, insA, justP, keeps, wrB, h0, plcN]
  rw [unhide E]
  have HO0 := hide h0
  have HB := hide (Blk.new w (insA I) 59)
  obtain ⟨i0, i1, i2, i3, i4, i5, i6, i7⟩ := cellJ (((unhide HB).alloc (.cells #[.int .i64 0, .int .i64 0, .int .i64 0, .int .i64 0, .int .i64 0, .int .i64 0, .int .i64 0, .int .i64 0, .int .i32 0, .int .i32 0, .int .i32 0, .int .i32 0, .int .i64 0, .int .i64 0, .int .i64 0, .int .i64 0] 59)))
  obtain ⟨i8, i9, i10, i11⟩ := cellM (((unhide HB).alloc (.cells #[.int .i64 0, .int .i64 0, .int .i64 0, .int .i64 0, .int .i64 0, .int .i64 0, .int .i64 0, .int .i64 0, .int .i32 0, .int .i32 0, .int .i32 0, .int .i32 0, .int .i64 0, .int .i64 0, .int .i64 0, .int .i64 0] 59)))
  have HR : Hid (Blk ((w.alloc (.cells (insA I) 59)).alloc (.cells #[.int .i64 0, .int .i64 0, .int .i64 0, .int .i64 0, .int .i64 0, .int .i64 0, .int .i64 0, .int .i64 0, .int .i32 0, .int .i32 0, .int .i32 0, .int .i32 0, .int .i64 0, .int .i64 0, .int .i64 0, .int .i64 0] 59)) (w.heap.size + 1) #[.int .i64 0, .int .i64 0, .int .i64 0, .int .i64 0, .int .i64 0, .int .i64 0, .int .i64 0, .int .i64 0, .int .i32 0, .int .i32 0, .int .i32 0, .int .i32 0, .int .i64 0, .int .i64 0, .int .i64 0, .int .i64 0] 59) := Blk.here (by simp)
  have HX := hide (((Ext.refl w).alloc (.cells (insA I) 59)).alloc (.cells #[.int .i64 0, .int .i64 0, .int .i64 0, .int .i64 0, .int .i64 0, .int .i64 0, .int .i64 0, .int .i64 0, .int .i32 0, .int .i32 0, .int .i32 0, .int .i32 0, .int .i64 0, .int .i64 0, .int .i64 0, .int .i64 0] 59))
  have HS0 : Hid (St3 w I ((w.alloc (.cells (insA I) 59)).alloc (.cells #[.int .i64 0, .int .i64 0, .int .i64 0, .int .i64 0, .int .i64 0, .int .i64 0, .int .i64 0, .int .i64 0, .int .i32 0, .int .i32 0, .int .i32 0, .int .i32 0, .int .i64 0, .int .i64 0, .int .i64 0, .int .i64 0] 59))) := ⟨unhide HX, (unhide HB).alloc _, _, rfl, unhide HR⟩
  have HC : Hid (∀ wx, St3 w I wx → wx.cell? ⟨w.heap.size, 0, none⟩ = some (.int .i64 6) ∧ wx.cell? ⟨w.heap.size, 4, none⟩ = some (.int .i64 (I 4)) ∧ wx.cell? ⟨w.heap.size, 5, none⟩ = some (.int .i64 (I 5)) ∧ wx.cell? ⟨w.heap.size, 3, none⟩ = some (.int .i64 (I 3))) := fun wx hx => by
    obtain ⟨j0, j1, j2, j3, j4, j5, j6, j7⟩ := cellJ hx.2.1
    rw [h0] at j0
    exact ⟨j0, j4, j5, j3⟩
  rw [h0] at i0
  clear h0 E HB HR HX HO0 i1 i2 i3 i4 i5 i6 i7 i8 i9 i10 i11
  go_enter Tryz.func96, Tryz.ntmps96
  go_wp2
  refine wp_region_noPanic ?_
  refine wp_region_held_drew (S := fun wx => St3 w I wx) (by kernel_rfl) ((unhide HS0).ext ((Ext.refl _).drew)) (fun HS => ?_)
  refine wpAnyH_take (i := 0) (oi := { dst := some 52, op := Op.fieldAddr _ (Operand.tmp 1) 0, type := _, pos := _, after := _, guard := none }) (v := .pointer (some ⟨w.heap.size, 0, none⟩)) rfl (by kernel_rfl) (by kernel_rfl) (by kernel_rfl) (fun _ _ _ h => h) (Or.inl ⟨by rfl, fun _ _ => rfl⟩) HS ?_
  simp only [Act.put, List.setIfInBounds_toArray, List.set_cons_zero, List.set_cons_succ]
  refine wpAnyH_take (i := 1) (oi := { dst := some 53, op := Op.load _ (Operand.tmp 52), type := _, pos := _, after := _, guard := none }) (v := .int .i64 6) rfl (by kernel_rfl) (by kernel_rfl) (by kernel_rfl) (fun _ _ _ h => h) (Or.inl ⟨by rfl, fun wx hx => by have h1 := (unhide HC wx hx).1; go_simp⟩) HS ?_
  simp only [Act.put, List.setIfInBounds_toArray, List.set_cons_zero, List.set_cons_succ]
  refine wpAnyH_take (i := 2) (oi := { dst := some 54, op := Op.fieldAddr _ (Operand.tmp 1) 4, type := _, pos := _, after := _, guard := none }) (v := .pointer (some ⟨w.heap.size, 4, none⟩)) rfl (by kernel_rfl) (by kernel_rfl) (by kernel_rfl) (fun _ _ _ h => h) (Or.inl ⟨by rfl, fun _ _ => rfl⟩) HS ?_
  simp only [Act.put, List.setIfInBounds_toArray, List.set_cons_zero, List.set_cons_succ]
  refine wpAnyH_take (i := 3) (oi := { dst := some 55, op := Op.load _ (Operand.tmp 54), type := _, pos := _, after := _, guard := none }) (v := .int .i64 (I 4)) rfl (by kernel_rfl) (by kernel_rfl) (by kernel_rfl) (fun _ _ _ h => h) (Or.inl ⟨by rfl, fun wx hx => by have h1 := (unhide HC wx hx).2.1; go_simp⟩) HS ?_
  simp only [Act.put, List.setIfInBounds_toArray, List.set_cons_zero, List.set_cons_succ]
  refine wpAnyH_take (i := 4) (oi := { dst := some 56, op := Op.fieldAddr _ (Operand.tmp 1) 5, type := _, pos := _, after := _, guard := none }) (v := .pointer (some ⟨w.heap.size, 5, none⟩)) rfl (by kernel_rfl) (by kernel_rfl) (by kernel_rfl) (fun _ _ _ h => h) (Or.inl ⟨by rfl, fun _ _ => rfl⟩) HS ?_
  simp only [Act.put, List.setIfInBounds_toArray, List.set_cons_zero, List.set_cons_succ]
  refine wpAnyH_take (i := 5) (oi := { dst := some 57, op := Op.load _ (Operand.tmp 56), type := _, pos := _, after := _, guard := none }) (v := .int .i64 (I 5)) rfl (by kernel_rfl) (by kernel_rfl) (by kernel_rfl) (fun _ _ _ h => h) (Or.inl ⟨by rfl, fun wx hx => by have h1 := (unhide HC wx hx).2.2.1; go_simp⟩) HS ?_
  simp only [Act.put, List.setIfInBounds_toArray, List.set_cons_zero, List.set_cons_succ]
  refine wpAnyH_take (i := 6) (oi := { dst := some 58, op := Op.fieldAddr _ (Operand.tmp 1) 3, type := _, pos := _, after := _, guard := none }) (v := .pointer (some ⟨w.heap.size, 3, none⟩)) rfl (by kernel_rfl) (by kernel_rfl) (by kernel_rfl) (fun _ _ _ h => h) (Or.inl ⟨by rfl, fun _ _ => rfl⟩) HS ?_
  simp only [Act.put, List.setIfInBounds_toArray, List.set_cons_zero, List.set_cons_succ]
  refine wpAnyH_take (i := 7) (oi := { dst := some 59, op := Op.load _ (Operand.tmp 58), type := _, pos := _, after := _, guard := none }) (v := .int .i64 (I 3)) rfl (by kernel_rfl) (by kernel_rfl) (by kernel_rfl) (fun _ _ _ h => h) (Or.inl ⟨by rfl, fun wx hx => by have h1 := (unhide HC wx hx).2.2.2; go_simp⟩) HS ?_
  simp only [Act.put, List.setIfInBounds_toArray, List.set_cons_zero, List.set_cons_succ]
  refine wpAnyH_take (i := 8) (oi := { dst := some 60, op := Op.load _ (Operand.tmp 1), type := _, pos := _, after := _, guard := none }) (v := .agg (insA I)) rfl (by kernel_rfl) (by kernel_rfl) (by kernel_rfl) (fun _ _ _ h => h) (yieldsIf_load_mid (by rfl) 59 (.tmp 1) rfl w.heap.size 0 rfl (insA I).toList _ (fun wx hx => hx.2.1.rng) Tryz.underlying59 rfl sizeI16) HS ?_
  simp only [Act.put, List.setIfInBounds_toArray, List.set_cons_zero, List.set_cons_succ]
  refine wpAnyH_ready (rs := [9]) (by kernel_rfl) (by simp) (AllReadyH.cons (o := { dst := some 61, op := Op.call { callee := Callee.value (Operand.func _), args := #[Operand.tmp 60], argTypes := _ }, type := _, pos := _, after := _, guard := none }) rfl (fun KK hK => ?_) AllReadyH.nil)
  go_simp
  refine (firstP_any I _).mono ?_
  rintro e ws ⟨rfl, hxs⟩
  have HS2 := St3.ext HS hxs
  clear hxs HS
  have HS := HS2
  clear HS2
  refine hK.out _ _ HS (fun _ => ?_)
  clear hK KK
  try simp only [Act.put, List.setIfInBounds_toArray, List.set_cons_zero, List.set_cons_succ]
  refine wpAnyH_take (i := 10) (oi := { dst := some 62, op := Op.build _ #[(0, Operand.tmp 53), (4, Operand.tmp 55), (5, Operand.tmp 57), (3, Operand.tmp 59), (9, Operand.tmp 61)], type := _, pos := _, after := _, guard := none }) (v := .agg #[.int .i64 6, .int .i64 0, .int .i64 0, .int .i64 (I 3), .int .i64 (I 4), .int .i64 (I 5), .int .i64 0, .int .i64 0, .int .i32 0, .int .i32 0, .int .i32 0, .int .i32 0, .int .i64 (plcN I 0), .int .i64 (plcN I 1), .int .i64 (plcN I 2), .int .i64 (plcN I 3)]) rfl (by kernel_rfl) (by kernel_rfl) (by kernel_rfl) (fun _ _ _ h => h) (Or.inl ⟨by rfl, fun wx hx => by kernel_rfl⟩) HS ?_
  simp only [Act.put, List.setIfInBounds_toArray, List.set_cons_zero, List.set_cons_succ]
  refine wpAnyH_ready (rs := [11]) (by kernel_rfl) (by simp) (AllReadyH.cons (o := { dst := none, op := Op.store _ (Operand.tmp 2) (Operand.tmp 62), type := _, pos := _, after := _, guard := none }) rfl (fun KK hK => ?_) AllReadyH.nil)
  refine Eq.mpr (if_pos (by rfl)) ?_
  obtain ⟨r, hr1, hr2⟩ := HS.2.2
  refine wp_store_row 59 (.tmp 2) (.tmp 62) rfl _ #[.int .i64 6, .int .i64 0, .int .i64 0, .int .i64 (I 3), .int .i64 (I 4), .int .i64 (I 5), .int .i64 0, .int .i64 0, .int .i32 0, .int .i32 0, .int .i32 0, .int .i32 0, .int .i64 (plcN I 0), .int .i64 (plcN I 1), .int .i64 (plcN I 2), .int .i64 (plcN I 3)] rfl rfl 59 r hr2 sizeI16 hr1 (by simp [Value.oneCell']) ?_
  have HBR := hide (hr2.rowC (cs' := #[.int .i64 6, .int .i64 0, .int .i64 0, .int .i64 (I 3), .int .i64 (I 4), .int .i64 (I 5), .int .i64 0, .int .i64 0, .int .i32 0, .int .i32 0, .int .i32 0, .int .i32 0, .int .i64 (plcN I 0), .int .i64 (plcN I 1), .int .i64 (plcN I 2), .int .i64 (plcN I 3)]))
  have HS2 := HS.put #[.int .i64 6, .int .i64 0, .int .i64 0, .int .i64 (I 3), .int .i64 (I 4), .int .i64 (I 5), .int .i64 0, .int .i64 0, .int .i32 0, .int .i32 0, .int .i32 0, .int .i32 0, .int .i64 (plcN I 0), .int .i64 (plcN I 1), .int .i64 (plcN I 2), .int .i64 (plcN I 3)] rfl
  refine hK.out _ _ HS2 (fun _ => ?_)
  have HXE := hide HS2.1
  clear hK KK HS HS2 hr1 hr2
  try simp only [Act.put, List.setIfInBounds_toArray, List.set_cons_zero, List.set_cons_succ]
  refine wpAnyH_done (by kernel_rfl) ?_ _
  refine NoPanic.normal ?_
  go_wp2
  exact bodyPost_ret (v := .agg #[.int .i64 6, .int .i64 0, .int .i64 0, .int .i64 (I 3), .int .i64 (I 4), .int .i64 (I 5), .int .i64 0, .int .i64 0, .int .i32 0, .int .i32 0, .int .i32 0, .int .i32 0, .int .i64 (plcN I 0), .int .i64 (plcN I 1), .int .i64 (plcN I 2), .int .i64 (plcN I 3)]) (results_cell_row Tryz.results96 _ _ (w.heap.size + 1) 59 _ (0, 0) _ rfl (unhide HBR) Tryz.underlying59 rfl sizeI16) rfl ⟨rfl, unhide HXE⟩

set_option maxRecDepth 10000 in
set_option maxHeartbeats 4000000 in
theorem just_7 (I : Nat → Int) (w : World) (h0 : I 0 = 7) : Calls Tryz.prog 96 #[.agg (insA I)] w fun e w' => e = .returned (.agg (insA (justP I))) ∧ Ext w w' := by
  have E : Hid (insA (justP I) = #[.int .i64 7, .int .i64 0, .int .i64 0, .int .i64 (I 3), .int .i64 (I 4), .int .i64 (I 5), .int .i64 0, .int .i64 0, .int .i32 0, .int .i32 0, .int .i32 0, .int .i32 0, .int .i64 (plcN I 0), .int .i64 (plcN I 1), .int .i64 (plcN I 2), .int .i64 (plcN I 3)]) := by simp [Hid, insA, justP, keeps, wrB, h0, plcN]
  rw [unhide E]
  have HO0 := hide h0
  have HB := hide (Blk.new w (insA I) 59)
  obtain ⟨i0, i1, i2, i3, i4, i5, i6, i7⟩ := cellJ (((unhide HB).alloc (.cells #[.int .i64 0, .int .i64 0, .int .i64 0, .int .i64 0, .int .i64 0, .int .i64 0, .int .i64 0, .int .i64 0, .int .i32 0, .int .i32 0, .int .i32 0, .int .i32 0, .int .i64 0, .int .i64 0, .int .i64 0, .int .i64 0] 59)))
  obtain ⟨i8, i9, i10, i11⟩ := cellM (((unhide HB).alloc (.cells #[.int .i64 0, .int .i64 0, .int .i64 0, .int .i64 0, .int .i64 0, .int .i64 0, .int .i64 0, .int .i64 0, .int .i32 0, .int .i32 0, .int .i32 0, .int .i32 0, .int .i64 0, .int .i64 0, .int .i64 0, .int .i64 0] 59)))
  have HR : Hid (Blk ((w.alloc (.cells (insA I) 59)).alloc (.cells #[.int .i64 0, .int .i64 0, .int .i64 0, .int .i64 0, .int .i64 0, .int .i64 0, .int .i64 0, .int .i64 0, .int .i32 0, .int .i32 0, .int .i32 0, .int .i32 0, .int .i64 0, .int .i64 0, .int .i64 0, .int .i64 0] 59)) (w.heap.size + 1) #[.int .i64 0, .int .i64 0, .int .i64 0, .int .i64 0, .int .i64 0, .int .i64 0, .int .i64 0, .int .i64 0, .int .i32 0, .int .i32 0, .int .i32 0, .int .i32 0, .int .i64 0, .int .i64 0, .int .i64 0, .int .i64 0] 59) := Blk.here (by simp)
  have HX := hide (((Ext.refl w).alloc (.cells (insA I) 59)).alloc (.cells #[.int .i64 0, .int .i64 0, .int .i64 0, .int .i64 0, .int .i64 0, .int .i64 0, .int .i64 0, .int .i64 0, .int .i32 0, .int .i32 0, .int .i32 0, .int .i32 0, .int .i64 0, .int .i64 0, .int .i64 0, .int .i64 0] 59))
  have HS0 : Hid (St3 w I ((w.alloc (.cells (insA I) 59)).alloc (.cells #[.int .i64 0, .int .i64 0, .int .i64 0, .int .i64 0, .int .i64 0, .int .i64 0, .int .i64 0, .int .i64 0, .int .i32 0, .int .i32 0, .int .i32 0, .int .i32 0, .int .i64 0, .int .i64 0, .int .i64 0, .int .i64 0] 59))) := ⟨unhide HX, (unhide HB).alloc _, _, rfl, unhide HR⟩
  have HC : Hid (∀ wx, St3 w I wx → wx.cell? ⟨w.heap.size, 0, none⟩ = some (.int .i64 7) ∧ wx.cell? ⟨w.heap.size, 4, none⟩ = some (.int .i64 (I 4)) ∧ wx.cell? ⟨w.heap.size, 5, none⟩ = some (.int .i64 (I 5)) ∧ wx.cell? ⟨w.heap.size, 3, none⟩ = some (.int .i64 (I 3))) := fun wx hx => by
    obtain ⟨j0, j1, j2, j3, j4, j5, j6, j7⟩ := cellJ hx.2.1
    rw [h0] at j0
    exact ⟨j0, j4, j5, j3⟩
  rw [h0] at i0
  clear h0 E HB HR HX HO0 i1 i2 i3 i4 i5 i6 i7 i8 i9 i10 i11
  go_enter Tryz.func96, Tryz.ntmps96
  go_wp2
  refine wp_region_noPanic ?_
  refine wp_region_held_drew (S := fun wx => St3 w I wx) (by kernel_rfl) ((unhide HS0).ext ((Ext.refl _).drew)) (fun HS => ?_)
  refine wpAnyH_take (i := 0) (oi := { dst := some 52, op := Op.fieldAddr _ (Operand.tmp 1) 0, type := _, pos := _, after := _, guard := none }) (v := .pointer (some ⟨w.heap.size, 0, none⟩)) rfl (by kernel_rfl) (by kernel_rfl) (by kernel_rfl) (fun _ _ _ h => h) (Or.inl ⟨by rfl, fun _ _ => rfl⟩) HS ?_
  simp only [Act.put, List.setIfInBounds_toArray, List.set_cons_zero, List.set_cons_succ]
  refine wpAnyH_take (i := 1) (oi := { dst := some 53, op := Op.load _ (Operand.tmp 52), type := _, pos := _, after := _, guard := none }) (v := .int .i64 7) rfl (by kernel_rfl) (by kernel_rfl) (by kernel_rfl) (fun _ _ _ h => h) (Or.inl ⟨by rfl, fun wx hx => by have h1 := (unhide HC wx hx).1; go_simp⟩) HS ?_
  simp only [Act.put, List.setIfInBounds_toArray, List.set_cons_zero, List.set_cons_succ]
  refine wpAnyH_take (i := 2) (oi := { dst := some 54, op := Op.fieldAddr _ (Operand.tmp 1) 4, type := _, pos := _, after := _, guard := none }) (v := .pointer (some ⟨w.heap.size, 4, none⟩)) rfl (by kernel_rfl) (by kernel_rfl) (by kernel_rfl) (fun _ _ _ h => h) (Or.inl ⟨by rfl, fun _ _ => rfl⟩) HS ?_
  simp only [Act.put, List.setIfInBounds_toArray, List.set_cons_zero, List.set_cons_succ]
  refine wpAnyH_take (i := 3) (oi := { dst := some 55, op := Op.load _ (Operand.tmp 54), type := _, pos := _, after := _, guard := none }) (v := .int .i64 (I 4)) rfl (by kernel_rfl) (by kernel_rfl) (by kernel_rfl) (fun _ _ _ h => h) (Or.inl ⟨by rfl, fun wx hx => by have h1 := (unhide HC wx hx).2.1; go_simp⟩) HS ?_
  simp only [Act.put, List.setIfInBounds_toArray, List.set_cons_zero, List.set_cons_succ]
  refine wpAnyH_take (i := 4) (oi := { dst := some 56, op := Op.fieldAddr _ (Operand.tmp 1) 5, type := _, pos := _, after := _, guard := none }) (v := .pointer (some ⟨w.heap.size, 5, none⟩)) rfl (by kernel_rfl) (by kernel_rfl) (by kernel_rfl) (fun _ _ _ h => h) (Or.inl ⟨by rfl, fun _ _ => rfl⟩) HS ?_
  simp only [Act.put, List.setIfInBounds_toArray, List.set_cons_zero, List.set_cons_succ]
  refine wpAnyH_take (i := 5) (oi := { dst := some 57, op := Op.load _ (Operand.tmp 56), type := _, pos := _, after := _, guard := none }) (v := .int .i64 (I 5)) rfl (by kernel_rfl) (by kernel_rfl) (by kernel_rfl) (fun _ _ _ h => h) (Or.inl ⟨by rfl, fun wx hx => by have h1 := (unhide HC wx hx).2.2.1; go_simp⟩) HS ?_
  simp only [Act.put, List.setIfInBounds_toArray, List.set_cons_zero, List.set_cons_succ]
  refine wpAnyH_take (i := 6) (oi := { dst := some 58, op := Op.fieldAddr _ (Operand.tmp 1) 3, type := _, pos := _, after := _, guard := none }) (v := .pointer (some ⟨w.heap.size, 3, none⟩)) rfl (by kernel_rfl) (by kernel_rfl) (by kernel_rfl) (fun _ _ _ h => h) (Or.inl ⟨by rfl, fun _ _ => rfl⟩) HS ?_
  simp only [Act.put, List.setIfInBounds_toArray, List.set_cons_zero, List.set_cons_succ]
  refine wpAnyH_take (i := 7) (oi := { dst := some 59, op := Op.load _ (Operand.tmp 58), type := _, pos := _, after := _, guard := none }) (v := .int .i64 (I 3)) rfl (by kernel_rfl) (by kernel_rfl) (by kernel_rfl) (fun _ _ _ h => h) (Or.inl ⟨by rfl, fun wx hx => by have h1 := (unhide HC wx hx).2.2.2; go_simp⟩) HS ?_
  simp only [Act.put, List.setIfInBounds_toArray, List.set_cons_zero, List.set_cons_succ]
  refine wpAnyH_take (i := 8) (oi := { dst := some 60, op := Op.load _ (Operand.tmp 1), type := _, pos := _, after := _, guard := none }) (v := .agg (insA I)) rfl (by kernel_rfl) (by kernel_rfl) (by kernel_rfl) (fun _ _ _ h => h) (yieldsIf_load_mid (by rfl) 59 (.tmp 1) rfl w.heap.size 0 rfl (insA I).toList _ (fun wx hx => hx.2.1.rng) Tryz.underlying59 rfl sizeI16) HS ?_
  simp only [Act.put, List.setIfInBounds_toArray, List.set_cons_zero, List.set_cons_succ]
  refine wpAnyH_ready (rs := [9]) (by kernel_rfl) (by simp) (AllReadyH.cons (o := { dst := some 61, op := Op.call { callee := Callee.value (Operand.func _), args := #[Operand.tmp 60], argTypes := _ }, type := _, pos := _, after := _, guard := none }) rfl (fun KK hK => ?_) AllReadyH.nil)
  go_simp
  refine (firstP_any I _).mono ?_
  rintro e ws ⟨rfl, hxs⟩
  have HS2 := St3.ext HS hxs
  clear hxs HS
  have HS := HS2
  clear HS2
  refine hK.out _ _ HS (fun _ => ?_)
  clear hK KK
  try simp only [Act.put, List.setIfInBounds_toArray, List.set_cons_zero, List.set_cons_succ]
  refine wpAnyH_take (i := 10) (oi := { dst := some 62, op := Op.build _ #[(0, Operand.tmp 53), (4, Operand.tmp 55), (5, Operand.tmp 57), (3, Operand.tmp 59), (9, Operand.tmp 61)], type := _, pos := _, after := _, guard := none }) (v := .agg #[.int .i64 7, .int .i64 0, .int .i64 0, .int .i64 (I 3), .int .i64 (I 4), .int .i64 (I 5), .int .i64 0, .int .i64 0, .int .i32 0, .int .i32 0, .int .i32 0, .int .i32 0, .int .i64 (plcN I 0), .int .i64 (plcN I 1), .int .i64 (plcN I 2), .int .i64 (plcN I 3)]) rfl (by kernel_rfl) (by kernel_rfl) (by kernel_rfl) (fun _ _ _ h => h) (Or.inl ⟨by rfl, fun wx hx => by kernel_rfl⟩) HS ?_
  simp only [Act.put, List.setIfInBounds_toArray, List.set_cons_zero, List.set_cons_succ]
  refine wpAnyH_ready (rs := [11]) (by kernel_rfl) (by simp) (AllReadyH.cons (o := { dst := none, op := Op.store _ (Operand.tmp 2) (Operand.tmp 62), type := _, pos := _, after := _, guard := none }) rfl (fun KK hK => ?_) AllReadyH.nil)
  refine Eq.mpr (if_pos (by rfl)) ?_
  obtain ⟨r, hr1, hr2⟩ := HS.2.2
  refine wp_store_row 59 (.tmp 2) (.tmp 62) rfl _ #[.int .i64 7, .int .i64 0, .int .i64 0, .int .i64 (I 3), .int .i64 (I 4), .int .i64 (I 5), .int .i64 0, .int .i64 0, .int .i32 0, .int .i32 0, .int .i32 0, .int .i32 0, .int .i64 (plcN I 0), .int .i64 (plcN I 1), .int .i64 (plcN I 2), .int .i64 (plcN I 3)] rfl rfl 59 r hr2 sizeI16 hr1 (by simp [Value.oneCell']) ?_
  have HBR := hide (hr2.rowC (cs' := #[.int .i64 7, .int .i64 0, .int .i64 0, .int .i64 (I 3), .int .i64 (I 4), .int .i64 (I 5), .int .i64 0, .int .i64 0, .int .i32 0, .int .i32 0, .int .i32 0, .int .i32 0, .int .i64 (plcN I 0), .int .i64 (plcN I 1), .int .i64 (plcN I 2), .int .i64 (plcN I 3)]))
  have HS2 := HS.put #[.int .i64 7, .int .i64 0, .int .i64 0, .int .i64 (I 3), .int .i64 (I 4), .int .i64 (I 5), .int .i64 0, .int .i64 0, .int .i32 0, .int .i32 0, .int .i32 0, .int .i32 0, .int .i64 (plcN I 0), .int .i64 (plcN I 1), .int .i64 (plcN I 2), .int .i64 (plcN I 3)] rfl
  refine hK.out _ _ HS2 (fun _ => ?_)
  have HXE := hide HS2.1
  clear hK KK HS HS2 hr1 hr2
  try simp only [Act.put, List.setIfInBounds_toArray, List.set_cons_zero, List.set_cons_succ]
  refine wpAnyH_done (by kernel_rfl) ?_ _
  refine NoPanic.normal ?_
  go_wp2
  exact bodyPost_ret (v := .agg #[.int .i64 7, .int .i64 0, .int .i64 0, .int .i64 (I 3), .int .i64 (I 4), .int .i64 (I 5), .int .i64 0, .int .i64 0, .int .i32 0, .int .i32 0, .int .i32 0, .int .i32 0, .int .i64 (plcN I 0), .int .i64 (plcN I 1), .int .i64 (plcN I 2), .int .i64 (plcN I 3)]) (results_cell_row Tryz.results96 _ _ (w.heap.size + 1) 59 _ (0, 0) _ rfl (unhide HBR) Tryz.underlying59 rfl sizeI16) rfl ⟨rfl, unhide HXE⟩

theorem just_any (I : Nat → Int) (w : World) : Calls Tryz.prog 96 #[.agg (insA I)] w fun e w' => e = .returned (.agg (insA (justP I))) ∧ Ext w w' := by
  rcases (by omega : I 0 = 1 ∨ I 0 = 2 ∨ I 0 = 3 ∨ I 0 = 4 ∨ I 0 = 5 ∨ I 0 = 6 ∨ I 0 = 7 ∨ I 0 = 8 ∨ I 0 = 9 ∨ I 0 = 10 ∨ I 0 = 11 ∨ (I 0 < 1 ∨ 11 < I 0)) with h | h | h | h | h | h | h | h | h | h | h | h
  · exact just_1 I w h
  · exact just_2 I w h
  · exact just_3 I w h
  · exact just_4 I w h
  · exact just_5 I w h
  · exact just_6 I w h
  · exact just_7 I w h
  · exact just_8 I w h
  · exact just_9 I w h
  · exact just_10 I w h
  · exact just_11 I w h
  · exact just_none I w h
end Go.Proofs.YtglfhmlcmffoaaaGreat
