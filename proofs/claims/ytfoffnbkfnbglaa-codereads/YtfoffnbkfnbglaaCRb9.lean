/-
  The document's Right, for some of the Ops.
-/
import Derived.Test.YtfoffnbkfnbglaaCRp
import Derived.Deep.Cut
import Derived.Deep.DeepCutAuto
import Derived.Deep.RegionHeld3
import Derived.BigRegion
namespace Go.Proofs.Ytfoffnbkfnbglaa
open Go.RowKit
set_option linter.unusedVariables false
set_option linter.unusedSimpArgs false

set_option maxRecDepth 10000 in
set_option maxHeartbeats 8000000 in
theorem right_12 (C : Cod) (v : Value) (L : List (Nat → Int)) (k : Nat) (w : World) (h : IR w v L) (hk : k < L.length) (hst : C.stage = 1 ∨ C.stage = 2) (ho : L[k] 0 = 12) : Calls Try.prog 36 #[.agg #[.int .i64 (C).stage, v, .int .i64 (C).regs, .int .i64 (C).attr, .int .i64 (C).unif, .int .i64 (C).vary], .int .i64 (k : Int)] w fun e w' => e = .returned (.bool (insB C L.length k L[k])) ∧ Ext w w' := by
  obtain ⟨ao, cap, rfl, hn0, hlc, hcm, hat⟩ := h
  obtain ⟨b, off, rfl, hrg⟩ := hat k hk
  have E := hide (rightP_12 C L.length k L[k] hst ho)
  generalize insB C L.length k L[k] = y at *
  generalize L[k] = I at *
  clear hat hn0
  generalize L.length = n at *
  unfold maxLen at hcm
  have hkn : (k : Int) < (n : Int) := by omega
  have HRNG := hide (rng_ext hrg ((Ext.refl w).alloc (.cells #[.int .i64 (C).stage, .slice (some ⟨b, off, none⟩) n cap, .int .i64 (C).regs, .int .i64 (C).attr, .int .i64 (C).unif, .int .i64 (C).vary] 26)))
  clear hrg
  have HX := hide ((((Ext.refl w).alloc (.cells #[.int .i64 (C).stage, .slice (some ⟨b, off, none⟩) n cap, .int .i64 (C).regs, .int .i64 (C).attr, .int .i64 (C).unif, .int .i64 (C).vary] 26)).alloc (.cells (insA I) 39)).alloc (.cells (insA (ofR [12, 0, 0, 0, 0, 0, 0, 0, 0, 0, 0, 0, 0, 0, 0, 0])) 39))
  have HC : Hid (Blk (((w.alloc (.cells #[.int .i64 (C).stage, .slice (some ⟨b, off, none⟩) n cap, .int .i64 (C).regs, .int .i64 (C).attr, .int .i64 (C).unif, .int .i64 (C).vary] 26)).alloc (.cells (insA I) 39)).alloc (.cells (insA (ofR [12, 0, 0, 0, 0, 0, 0, 0, 0, 0, 0, 0, 0, 0, 0, 0])) 39)) w.heap.size #[.int .i64 (C).stage, .slice (some ⟨b, off, none⟩) n cap, .int .i64 (C).regs, .int .i64 (C).attr, .int .i64 (C).unif, .int .i64 (C).vary] 26) := ((Blk.new w _ _).alloc _).alloc _
  have HI : Hid (Blk (((w.alloc (.cells #[.int .i64 (C).stage, .slice (some ⟨b, off, none⟩) n cap, .int .i64 (C).regs, .int .i64 (C).attr, .int .i64 (C).unif, .int .i64 (C).vary] 26)).alloc (.cells (insA I) 39)).alloc (.cells (insA (ofR [12, 0, 0, 0, 0, 0, 0, 0, 0, 0, 0, 0, 0, 0, 0, 0])) 39)) (w.heap.size + 1) (insA I) 39) := (Blk.here (by simp)).alloc _
  have HO : Hid (Blk (((w.alloc (.cells #[.int .i64 (C).stage, .slice (some ⟨b, off, none⟩) n cap, .int .i64 (C).regs, .int .i64 (C).attr, .int .i64 (C).unif, .int .i64 (C).vary] 26)).alloc (.cells (insA I) 39)).alloc (.cells (insA (ofR [12, 0, 0, 0, 0, 0, 0, 0, 0, 0, 0, 0, 0, 0, 0, 0])) 39)) (w.heap.size + 1 + 1) (insA (ofR [12, 0, 0, 0, 0, 0, 0, 0, 0, 0, 0, 0, 0, 0, 0, 0])) 39) := Blk.here (by simp)
  have j0 : ((w.alloc (.cells #[.int .i64 (C).stage, .slice (some ⟨b, off, none⟩) n cap, .int .i64 (C).regs, .int .i64 (C).attr, .int .i64 (C).unif, .int .i64 (C).vary] 26)).alloc (.cells (insA I) 39)).cell? ⟨w.heap.size + 1, 0, none⟩ = some (.int .i64 12) := by
    have := (cellJ (Blk.here (w := w.alloc (.cells #[.int .i64 (C).stage, .slice (some ⟨b, off, none⟩) n cap, .int .i64 (C).regs, .int .i64 (C).attr, .int .i64 (C).unif, .int .i64 (C).vary] 26)) (b := w.heap.size + 1) (cs := insA I) (t := 39) (by simp))).1
    rw [ho] at this
    exact this
  go_enter Try.func36, Try.ntmps36
  go_upto_region 6 with (first
    | (refine wpList_load_mid rfl 39 (.tmp 13) rfl b (off + k * 16) rfl (insA I).toList _ (unhide HRNG) Try.underlying39 rfl size16 ?_; rw [Array.toArray_toList])
    | refine wpList_storeLast rfl 39 (.tmp 5) (.tmp 14) rfl _ (w.heap.size + 1) (by simp) rfl (insA I) rfl 16 size16 rfl rfl (insA_one I) ?_
    | refine wpList_buildTo rfl 39 _ rfl (some 20) rfl (insA (ofR [12, 0, 0, 0, 0, 0, 0, 0, 0, 0, 0, 0, 0, 0, 0, 0])) (by kernel_rfl) ?_
    | refine wpList_storeLast rfl 39 (.tmp 7) (.tmp 20) rfl _ (w.heap.size + 1 + 1) (by simp) rfl (insA (ofR [12, 0, 0, 0, 0, 0, 0, 0, 0, 0, 0, 0, 0, 0, 0, 0])) rfl 16 size16 rfl rfl (insA_one _) ?_)
  generalize (((w.alloc (.cells #[.int .i64 (C).stage, .slice (some ⟨b, off, none⟩) n cap, .int .i64 (C).regs, .int .i64 (C).attr, .int .i64 (C).unif, .int .i64 (C).vary] 26)).alloc (.cells (insA I) 39)).alloc (.cells (insA (ofR [12, 0, 0, 0, 0, 0, 0, 0, 0, 0, 0, 0, 0, 0, 0, 0])) 39)) = w3 at HX HC HI HO ⊢
  clear j0 HRNG
  obtain ⟨i0, i1, i2, i3, i4, i5, i6, i7⟩ := cellJ (unhide HI)
  obtain ⟨p0, p1, p2, p3⟩ := cellP (unhide HI)
  obtain ⟨m0, m1, m2, m3⟩ := cellM (unhide HI)
  obtain ⟨z0, z1, z2, z3, z4, z5⟩ := cellC (unhide HC)
  obtain ⟨o0, o1, o2, o3, o4, o5, o6, o7⟩ := cellJ (unhide HO)
  obtain ⟨x0, x1, x2, x3⟩ := cellP (unhide HO)
  obtain ⟨y0, y1, y2, y3⟩ := cellM (unhide HO)
  have fo := fun j => (unhide HO).free j
  cases q1 : (C.stage == 1)
  · rw [q1] at E
    go_upto_region 64 with fail
    go_wp2_with (first
      | refine wpList_load_row_wantR rfl 39 (.tmp 7) rfl (w.heap.size + 1 + 1) rfl 39 _ (0, 0) _ (unhide HO) Try.underlying39 rfl size16 ?_
      | refine wpList_load_row_wantR rfl 39 (.tmp 5) rfl (w.heap.size + 1) rfl 39 (insA I) (0, 0) _ (unhide HI) Try.underlying39 rfl size16 ?_
      | refine wpList_eq_wantR rfl (.tmp 408) (.tmp 409) 39 39 _ _ _ rfl rfl rfl grdI (eqI _ _ _) ?_)
    go_ret
    rw [unhide E]
    exact ⟨rfl, unhide HX⟩
  · rw [q1] at E
    go_upto_region 64 with fail
    go_wp2
    go_ret
    rw [unhide E]
    exact ⟨rfl, unhide HX⟩

set_option maxRecDepth 10000 in
set_option maxHeartbeats 8000000 in
theorem right_x (C : Cod) (v : Value) (L : List (Nat → Int)) (k : Nat) (w : World) (h : IR w v L) (hk : k < L.length) (hst : C.stage = 1 ∨ C.stage = 2) (ho : ¬ (1 ≤ L[k] 0 ∧ L[k] 0 ≤ 12)) : Calls Try.prog 36 #[.agg #[.int .i64 (C).stage, v, .int .i64 (C).regs, .int .i64 (C).attr, .int .i64 (C).unif, .int .i64 (C).vary], .int .i64 (k : Int)] w fun e w' => e = .returned (.bool (insB C L.length k L[k])) ∧ Ext w w' := by
  obtain ⟨ao, cap, rfl, hn0, hlc, hcm, hat⟩ := h
  obtain ⟨b, off, rfl, hrg⟩ := hat k hk
  have E := hide (rightP_x C L.length k L[k] ho)
  generalize insB C L.length k L[k] = y at *
  generalize L[k] = I at *
  clear hat hn0
  generalize L.length = n at *
  unfold maxLen at hcm
  have hkn : (k : Int) < (n : Int) := by omega
  have HRNG := hide (rng_ext hrg ((Ext.refl w).alloc (.cells #[.int .i64 (C).stage, .slice (some ⟨b, off, none⟩) n cap, .int .i64 (C).regs, .int .i64 (C).attr, .int .i64 (C).unif, .int .i64 (C).vary] 26)))
  clear hrg
  have HX := hide ((((Ext.refl w).alloc (.cells #[.int .i64 (C).stage, .slice (some ⟨b, off, none⟩) n cap, .int .i64 (C).regs, .int .i64 (C).attr, .int .i64 (C).unif, .int .i64 (C).vary] 26)).alloc (.cells (insA I) 39)).alloc (.cells (insA (ofR [I 0, 0, 0, 0, 0, 0, 0, 0, 0, 0, 0, 0, 0, 0, 0, 0])) 39))
  have HC : Hid (Blk (((w.alloc (.cells #[.int .i64 (C).stage, .slice (some ⟨b, off, none⟩) n cap, .int .i64 (C).regs, .int .i64 (C).attr, .int .i64 (C).unif, .int .i64 (C).vary] 26)).alloc (.cells (insA I) 39)).alloc (.cells (insA (ofR [I 0, 0, 0, 0, 0, 0, 0, 0, 0, 0, 0, 0, 0, 0, 0, 0])) 39)) w.heap.size #[.int .i64 (C).stage, .slice (some ⟨b, off, none⟩) n cap, .int .i64 (C).regs, .int .i64 (C).attr, .int .i64 (C).unif, .int .i64 (C).vary] 26) := ((Blk.new w _ _).alloc _).alloc _
  have HI : Hid (Blk (((w.alloc (.cells #[.int .i64 (C).stage, .slice (some ⟨b, off, none⟩) n cap, .int .i64 (C).regs, .int .i64 (C).attr, .int .i64 (C).unif, .int .i64 (C).vary] 26)).alloc (.cells (insA I) 39)).alloc (.cells (insA (ofR [I 0, 0, 0, 0, 0, 0, 0, 0, 0, 0, 0, 0, 0, 0, 0, 0])) 39)) (w.heap.size + 1) (insA I) 39) := (Blk.here (by simp)).alloc _
  have HO : Hid (Blk (((w.alloc (.cells #[.int .i64 (C).stage, .slice (some ⟨b, off, none⟩) n cap, .int .i64 (C).regs, .int .i64 (C).attr, .int .i64 (C).unif, .int .i64 (C).vary] 26)).alloc (.cells (insA I) 39)).alloc (.cells (insA (ofR [I 0, 0, 0, 0, 0, 0, 0, 0, 0, 0, 0, 0, 0, 0, 0, 0])) 39)) (w.heap.size + 1 + 1) (insA (ofR [I 0, 0, 0, 0, 0, 0, 0, 0, 0, 0, 0, 0, 0, 0, 0, 0])) 39) := Blk.here (by simp)
  have j0 : ((w.alloc (.cells #[.int .i64 (C).stage, .slice (some ⟨b, off, none⟩) n cap, .int .i64 (C).regs, .int .i64 (C).attr, .int .i64 (C).unif, .int .i64 (C).vary] 26)).alloc (.cells (insA I) 39)).cell? ⟨w.heap.size + 1, 0, none⟩ = some (.int .i64 (I 0)) := by
    have := (cellJ (Blk.here (w := w.alloc (.cells #[.int .i64 (C).stage, .slice (some ⟨b, off, none⟩) n cap, .int .i64 (C).regs, .int .i64 (C).attr, .int .i64 (C).unif, .int .i64 (C).vary] 26)) (b := w.heap.size + 1) (cs := insA I) (t := 39) (by simp))).1
    exact this
  have d1 : (I 0 == 1) = false := beq_eq_false_iff_ne.2 (by omega)
  have d2 : (I 0 == 2) = false := beq_eq_false_iff_ne.2 (by omega)
  have d3 : (I 0 == 3) = false := beq_eq_false_iff_ne.2 (by omega)
  have d4 : (I 0 == 4) = false := beq_eq_false_iff_ne.2 (by omega)
  have d5 : (I 0 == 5) = false := beq_eq_false_iff_ne.2 (by omega)
  have d6 : (I 0 == 6) = false := beq_eq_false_iff_ne.2 (by omega)
  have d7 : (I 0 == 7) = false := beq_eq_false_iff_ne.2 (by omega)
  have d8 : (I 0 == 8) = false := beq_eq_false_iff_ne.2 (by omega)
  have d9 : (I 0 == 9) = false := beq_eq_false_iff_ne.2 (by omega)
  have d10 : (I 0 == 10) = false := beq_eq_false_iff_ne.2 (by omega)
  have d11 : (I 0 == 11) = false := beq_eq_false_iff_ne.2 (by omega)
  have d12 : (I 0 == 12) = false := beq_eq_false_iff_ne.2 (by omega)
  clear ho
  go_enter Try.func36, Try.ntmps36
  go_upto_region 6 with (first
    | (refine wpList_load_mid rfl 39 (.tmp 13) rfl b (off + k * 16) rfl (insA I).toList _ (unhide HRNG) Try.underlying39 rfl size16 ?_; rw [Array.toArray_toList])
    | refine wpList_storeLast rfl 39 (.tmp 5) (.tmp 14) rfl _ (w.heap.size + 1) (by simp) rfl (insA I) rfl 16 size16 rfl rfl (insA_one I) ?_
    | refine wpList_buildTo rfl 39 _ rfl (some 20) rfl (insA (ofR [I 0, 0, 0, 0, 0, 0, 0, 0, 0, 0, 0, 0, 0, 0, 0, 0])) (by kernel_rfl) ?_
    | refine wpList_storeLast rfl 39 (.tmp 7) (.tmp 20) rfl _ (w.heap.size + 1 + 1) (by simp) rfl (insA (ofR [I 0, 0, 0, 0, 0, 0, 0, 0, 0, 0, 0, 0, 0, 0, 0, 0])) rfl 16 size16 rfl rfl (insA_one _) ?_)
  generalize (((w.alloc (.cells #[.int .i64 (C).stage, .slice (some ⟨b, off, none⟩) n cap, .int .i64 (C).regs, .int .i64 (C).attr, .int .i64 (C).unif, .int .i64 (C).vary] 26)).alloc (.cells (insA I) 39)).alloc (.cells (insA (ofR [I 0, 0, 0, 0, 0, 0, 0, 0, 0, 0, 0, 0, 0, 0, 0, 0])) 39)) = w3 at HX HC HI HO ⊢
  clear j0 HRNG
  obtain ⟨i0, i1, i2, i3, i4, i5, i6, i7⟩ := cellJ (unhide HI)
  obtain ⟨p0, p1, p2, p3⟩ := cellP (unhide HI)
  obtain ⟨m0, m1, m2, m3⟩ := cellM (unhide HI)
  obtain ⟨z0, z1, z2, z3, z4, z5⟩ := cellC (unhide HC)
  obtain ⟨o0, o1, o2, o3, o4, o5, o6, o7⟩ := cellJ (unhide HO)
  obtain ⟨x0, x1, x2, x3⟩ := cellP (unhide HO)
  obtain ⟨y0, y1, y2, y3⟩ := cellM (unhide HO)
  have fo := fun j => (unhide HO).free j
  go_wp2
  go_ret
  rw [unhide E]
  exact ⟨rfl, unhide HX⟩
end Go.Proofs.Ytfoffnbkfnbglaa
