/-
  Codes: the walk of fieldsMayBe, Op by Op (1, 2, 9, 3, 4). What the dump lacks is left out.
-/
import Derived.Test.YtglfhmlcmffoaaaGreatCHJ
import Derived.Deep.Cut
namespace Go.Proofs.YtglfhmlcmffoaaaGreat
open Go.RowKit
set_option linter.unusedVariables false
set_option linter.unusedSimpArgs false

set_option maxRecDepth 10000 in
set_option maxHeartbeats 4000000 in
theorem fld_1 (C : Cod) (v : Value) (L : List (Nat → Int)) (k : Nat) (w : World) (h : IR w v L) (hk : k < L.length) (h0 : L[k] 0 = 1) : Calls Tryz.prog 98 #[.agg #[.int .i64 (C).stage, v, .int .i64 (C).regs, .int .i64 (C).attr, .int .i64 (C).unif, .int .i64 (C).vary], .int .i64 (k : Int)] w fun e w' => e = .returned (.bool (fldB C L.length k L[k])) ∧ Ext w w' := by
  obtain ⟨ao, cap, rfl, hn0, hlc, hcm, hat⟩ := h
  obtain ⟨b, off, rfl, hrg⟩ := hat k hk
  have E : Hid (fldB C L.length k L[k] = true) := by
    simp [Hid, fldB, h0]
  rw [unhide E]
  clear E hat hn0
  generalize L[k] = I at *
  generalize L.length = n at *
  unfold maxLen at hcm
  have HI : Hid (Blk ((w.alloc (.cells #[.int .i64 (C).stage, .slice (some ⟨b, off, none⟩) n cap, .int .i64 (C).regs, .int .i64 (C).attr, .int .i64 (C).unif, .int .i64 (C).vary] 24)).alloc (.cells (insA I) 59)) (w.heap.size + 1) (insA I) 59) := Blk.here (by simp)
  have HC : Hid (Blk ((w.alloc (.cells #[.int .i64 (C).stage, .slice (some ⟨b, off, none⟩) n cap, .int .i64 (C).regs, .int .i64 (C).attr, .int .i64 (C).unif, .int .i64 (C).vary] 24)).alloc (.cells (insA I) 59)) w.heap.size #[.int .i64 (C).stage, .slice (some ⟨b, off, none⟩) n cap, .int .i64 (C).regs, .int .i64 (C).attr, .int .i64 (C).unif, .int .i64 (C).vary] 24) := (Blk.new w _ _).alloc _
  have HX := hide (((Ext.refl w).alloc (.cells #[.int .i64 (C).stage, .slice (some ⟨b, off, none⟩) n cap, .int .i64 (C).regs, .int .i64 (C).attr, .int .i64 (C).unif, .int .i64 (C).vary] 24)).alloc (.cells (insA I) 59))
  have HRG := hide (rng_ext hrg ((Ext.refl w).alloc (.cells #[.int .i64 (C).stage, .slice (some ⟨b, off, none⟩) n cap, .int .i64 (C).regs, .int .i64 (C).attr, .int .i64 (C).unif, .int .i64 (C).vary] 24)))
  obtain ⟨i0, i1, i2, i3, i4, i5, i6, i7⟩ := cellJ (unhide HI)
  obtain ⟨p0, p1, p2, p3⟩ := cellP (unhide HI)
  obtain ⟨z0, z1, z2, z3, z4, z5⟩ := cellC (unhide HC)
  have hkn : (k : Int) < (n : Int) := by omega
  clear hrg z2 z3 z4 z5
  rw [h0] at i0
  clear h0
  go_enter Tryz.func98, Tryz.ntmps98
  go_wp2_with (first
    | (refine wpList_load_mid rfl 59 (.tmp 9) rfl b (off + k * 16) rfl (insA I).toList _ (unhide HRG) Tryz.underlying59 rfl sizeI16 ?_; rw [Array.toArray_toList])
    | refine wpList_storeLast rfl 59 (.tmp 5) (.tmp 10) rfl _ (w.heap.size + 1) (by simp) rfl (insA I) rfl 16 sizeI16 rfl rfl (insA_one I) ?_)
  go_ret
  exact ⟨rfl, unhide HX⟩

set_option maxRecDepth 10000 in
set_option maxHeartbeats 4000000 in
theorem fld_2 (C : Cod) (v : Value) (L : List (Nat → Int)) (k : Nat) (w : World) (h : IR w v L) (hk : k < L.length) (h0 : L[k] 0 = 2) : Calls Tryz.prog 98 #[.agg #[.int .i64 (C).stage, v, .int .i64 (C).regs, .int .i64 (C).attr, .int .i64 (C).unif, .int .i64 (C).vary], .int .i64 (k : Int)] w fun e w' => e = .returned (.bool (fldB C L.length k L[k])) ∧ Ext w w' := by
  obtain ⟨ao, cap, rfl, hn0, hlc, hcm, hat⟩ := h
  obtain ⟨b, off, rfl, hrg⟩ := hat k hk
  have E : Hid (fldB C L.length k L[k] = true) := by
    simp [Hid, fldB, h0]
  rw [unhide E]
  clear E hat hn0
  generalize L[k] = I at *
  generalize L.length = n at *
  unfold maxLen at hcm
  have HI : Hid (Blk ((w.alloc (.cells #[.int .i64 (C).stage, .slice (some ⟨b, off, none⟩) n cap, .int .i64 (C).regs, .int .i64 (C).attr, .int .i64 (C).unif, .int .i64 (C).vary] 24)).alloc (.cells (insA I) 59)) (w.heap.size + 1) (insA I) 59) := Blk.here (by simp)
  have HC : Hid (Blk ((w.alloc (.cells #[.int .i64 (C).stage, .slice (some ⟨b, off, none⟩) n cap, .int .i64 (C).regs, .int .i64 (C).attr, .int .i64 (C).unif, .int .i64 (C).vary] 24)).alloc (.cells (insA I) 59)) w.heap.size #[.int .i64 (C).stage, .slice (some ⟨b, off, none⟩) n cap, .int .i64 (C).regs, .int .i64 (C).attr, .int .i64 (C).unif, .int .i64 (C).vary] 24) := (Blk.new w _ _).alloc _
  have HX := hide (((Ext.refl w).alloc (.cells #[.int .i64 (C).stage, .slice (some ⟨b, off, none⟩) n cap, .int .i64 (C).regs, .int .i64 (C).attr, .int .i64 (C).unif, .int .i64 (C).vary] 24)).alloc (.cells (insA I) 59))
  have HRG := hide (rng_ext hrg ((Ext.refl w).alloc (.cells #[.int .i64 (C).stage, .slice (some ⟨b, off, none⟩) n cap, .int .i64 (C).regs, .int .i64 (C).attr, .int .i64 (C).unif, .int .i64 (C).vary] 24)))
  obtain ⟨i0, i1, i2, i3, i4, i5, i6, i7⟩ := cellJ (unhide HI)
  obtain ⟨p0, p1, p2, p3⟩ := cellP (unhide HI)
  obtain ⟨z0, z1, z2, z3, z4, z5⟩ := cellC (unhide HC)
  have hkn : (k : Int) < (n : Int) := by omega
  clear hrg z2 z3 z4 z5
  rw [h0] at i0
  clear h0
  go_enter Tryz.func98, Tryz.ntmps98
  go_wp2_with (first
    | (refine wpList_load_mid rfl 59 (.tmp 9) rfl b (off + k * 16) rfl (insA I).toList _ (unhide HRG) Tryz.underlying59 rfl sizeI16 ?_; rw [Array.toArray_toList])
    | refine wpList_storeLast rfl 59 (.tmp 5) (.tmp 10) rfl _ (w.heap.size + 1) (by simp) rfl (insA I) rfl 16 sizeI16 rfl rfl (insA_one I) ?_)
  go_ret
  exact ⟨rfl, unhide HX⟩

set_option maxRecDepth 10000 in
set_option maxHeartbeats 4000000 in
theorem fld_9 (C : Cod) (v : Value) (L : List (Nat → Int)) (k : Nat) (w : World) (h : IR w v L) (hk : k < L.length) (h0 : L[k] 0 = 9) : Calls Tryz.prog 98 #[.agg #[.int .i64 (C).stage, v, .int .i64 (C).regs, .int .i64 (C).attr, .int .i64 (C).unif, .int .i64 (C).vary], .int .i64 (k : Int)] w fun e w' => e = .returned (.bool (fldB C L.length k L[k])) ∧ Ext w w' := by
  obtain ⟨ao, cap, rfl, hn0, hlc, hcm, hat⟩ := h
  obtain ⟨b, off, rfl, hrg⟩ := hat k hk
  have E : Hid (fldB C L.length k L[k] = true) := by
    simp [Hid, fldB, h0]
  rw [unhide E]
  clear E hat hn0
  generalize L[k] = I at *
  generalize L.length = n at *
  unfold maxLen at hcm
  have HI : Hid (Blk ((w.alloc (.cells #[.int .i64 (C).stage, .slice (some ⟨b, off, none⟩) n cap, .int .i64 (C).regs, .int .i64 (C).attr, .int .i64 (C).unif, .int .i64 (C).vary] 24)).alloc (.cells (insA I) 59)) (w.heap.size + 1) (insA I) 59) := Blk.here (by simp)
  have HC : Hid (Blk ((w.alloc (.cells #[.int .i64 (C).stage, .slice (some ⟨b, off, none⟩) n cap, .int .i64 (C).regs, .int .i64 (C).attr, .int .i64 (C).unif, .int .i64 (C).vary] 24)).alloc (.cells (insA I) 59)) w.heap.size #[.int .i64 (C).stage, .slice (some ⟨b, off, none⟩) n cap, .int .i64 (C).regs, .int .i64 (C).attr, .int .i64 (C).unif, .int .i64 (C).vary] 24) := (Blk.new w _ _).alloc _
  have HX := hide (((Ext.refl w).alloc (.cells #[.int .i64 (C).stage, .slice (some ⟨b, off, none⟩) n cap, .int .i64 (C).regs, .int .i64 (C).attr, .int .i64 (C).unif, .int .i64 (C).vary] 24)).alloc (.cells (insA I) 59))
  have HRG := hide (rng_ext hrg ((Ext.refl w).alloc (.cells #[.int .i64 (C).stage, .slice (some ⟨b, off, none⟩) n cap, .int .i64 (C).regs, .int .i64 (C).attr, .int .i64 (C).unif, .int .i64 (C).vary] 24)))
  obtain ⟨i0, i1, i2, i3, i4, i5, i6, i7⟩ := cellJ (unhide HI)
  obtain ⟨p0, p1, p2, p3⟩ := cellP (unhide HI)
  obtain ⟨z0, z1, z2, z3, z4, z5⟩ := cellC (unhide HC)
  have hkn : (k : Int) < (n : Int) := by omega
  clear hrg z2 z3 z4 z5
  rw [h0] at i0
  clear h0
  go_enter Tryz.func98, Tryz.ntmps98
  go_wp2_with (first
    | (refine wpList_load_mid rfl 59 (.tmp 9) rfl b (off + k * 16) rfl (insA I).toList _ (unhide HRG) Tryz.underlying59 rfl sizeI16 ?_; rw [Array.toArray_toList])
    | refine wpList_storeLast rfl 59 (.tmp 5) (.tmp 10) rfl _ (w.heap.size + 1) (by simp) rfl (insA I) rfl 16 sizeI16 rfl rfl (insA_one I) ?_)
  go_ret
  exact ⟨rfl, unhide HX⟩

set_option maxRecDepth 10000 in
set_option maxHeartbeats 4000000 in
theorem fld_3 (C : Cod) (v : Value) (L : List (Nat → Int)) (k : Nat) (w : World) (h : IR w v L) (hk : k < L.length) (h0 : L[k] 0 = 3) : Calls Tryz.prog 98 #[.agg #[.int .i64 (C).stage, v, .int .i64 (C).regs, .int .i64 (C).attr, .int .i64 (C).unif, .int .i64 (C).vary], .int .i64 (k : Int)] w fun e w' => e = .returned (.bool (fldB C L.length k L[k])) ∧ Ext w w' := by
  obtain ⟨ao, cap, rfl, hn0, hlc, hcm, hat⟩ := h
  obtain ⟨b, off, rfl, hrg⟩ := hat k hk
  have E : Hid (fldB C L.length k L[k] = loadB C L[k]) := by
    simp [Hid, fldB, h0]
  rw [unhide E]
  clear E hat hn0
  generalize L[k] = I at *
  generalize L.length = n at *
  unfold maxLen at hcm
  have HI : Hid (Blk ((w.alloc (.cells #[.int .i64 (C).stage, .slice (some ⟨b, off, none⟩) n cap, .int .i64 (C).regs, .int .i64 (C).attr, .int .i64 (C).unif, .int .i64 (C).vary] 24)).alloc (.cells (insA I) 59)) (w.heap.size + 1) (insA I) 59) := Blk.here (by simp)
  have HC : Hid (Blk ((w.alloc (.cells #[.int .i64 (C).stage, .slice (some ⟨b, off, none⟩) n cap, .int .i64 (C).regs, .int .i64 (C).attr, .int .i64 (C).unif, .int .i64 (C).vary] 24)).alloc (.cells (insA I) 59)) w.heap.size #[.int .i64 (C).stage, .slice (some ⟨b, off, none⟩) n cap, .int .i64 (C).regs, .int .i64 (C).attr, .int .i64 (C).unif, .int .i64 (C).vary] 24) := (Blk.new w _ _).alloc _
  have HX := hide (((Ext.refl w).alloc (.cells #[.int .i64 (C).stage, .slice (some ⟨b, off, none⟩) n cap, .int .i64 (C).regs, .int .i64 (C).attr, .int .i64 (C).unif, .int .i64 (C).vary] 24)).alloc (.cells (insA I) 59))
  have HRG := hide (rng_ext hrg ((Ext.refl w).alloc (.cells #[.int .i64 (C).stage, .slice (some ⟨b, off, none⟩) n cap, .int .i64 (C).regs, .int .i64 (C).attr, .int .i64 (C).unif, .int .i64 (C).vary] 24)))
  obtain ⟨i0, i1, i2, i3, i4, i5, i6, i7⟩ := cellJ (unhide HI)
  obtain ⟨p0, p1, p2, p3⟩ := cellP (unhide HI)
  obtain ⟨z0, z1, z2, z3, z4, z5⟩ := cellC (unhide HC)
  have hkn : (k : Int) < (n : Int) := by omega
  clear hrg z2 z3 z4 z5
  rw [h0] at i0
  clear h0
  go_enter Tryz.func98, Tryz.ntmps98
  go_wp2_with (first
    | (refine wpList_load_mid rfl 59 (.tmp 9) rfl b (off + k * 16) rfl (insA I).toList _ (unhide HRG) Tryz.underlying59 rfl sizeI16 ?_; rw [Array.toArray_toList])
    | refine wpList_storeLast rfl 59 (.tmp 5) (.tmp 10) rfl _ (w.heap.size + 1) (by simp) rfl (insA I) rfl 16 sizeI16 rfl rfl (insA_one I) ?_
    | refine wpList_load_row rfl 24 (.tmp 2) rfl w.heap.size rfl 24 #[.int .i64 (C).stage, .slice (some ⟨b, off, none⟩) n cap, .int .i64 (C).regs, .int .i64 (C).attr, .int .i64 (C).unif, .int .i64 (C).vary] (0, 0) _ (unhide HC) Tryz.underlying24 rfl size6 ?_
    | refine wpList_load_row rfl 59 (.tmp 5) rfl (w.heap.size + 1) rfl 59 (insA I) (0, 0) _ (unhide HI) Tryz.underlying59 rfl sizeI16 ?_
    | (go_at_call 135; refine (load_any C _ I _).mono ?_; rintro e w5 ⟨rfl, hx5⟩; have HX5 := hide ((unhide HX).trans hx5); clear hx5))
  go_ret
  exact ⟨rfl, unhide HX5⟩

set_option maxRecDepth 10000 in
set_option maxHeartbeats 4000000 in
theorem fld_4 (C : Cod) (v : Value) (L : List (Nat → Int)) (k : Nat) (w : World) (h : IR w v L) (hk : k < L.length) (h0 : L[k] 0 = 4) : Calls Tryz.prog 98 #[.agg #[.int .i64 (C).stage, v, .int .i64 (C).regs, .int .i64 (C).attr, .int .i64 (C).unif, .int .i64 (C).vary], .int .i64 (k : Int)] w fun e w' => e = .returned (.bool (fldB C L.length k L[k])) ∧ Ext w w' := by
  obtain ⟨ao, cap, rfl, hn0, hlc, hcm, hat⟩ := h
  obtain ⟨b, off, rfl, hrg⟩ := hat k hk
  have E : Hid (fldB C L.length k L[k] = storB C L[k]) := by
    simp [Hid, fldB, h0]
  rw [unhide E]
  clear E hat hn0
  generalize L[k] = I at *
  generalize L.length = n at *
  unfold maxLen at hcm
  have HI : Hid (Blk ((w.alloc (.cells #[.int .i64 (C).stage, .slice (some ⟨b, off, none⟩) n cap, .int .i64 (C).regs, .int .i64 (C).attr, .int .i64 (C).unif, .int .i64 (C).vary] 24)).alloc (.cells (insA I) 59)) (w.heap.size + 1) (insA I) 59) := Blk.here (by simp)
  have HC : Hid (Blk ((w.alloc (.cells #[.int .i64 (C).stage, .slice (some ⟨b, off, none⟩) n cap, .int .i64 (C).regs, .int .i64 (C).attr, .int .i64 (C).unif, .int .i64 (C).vary] 24)).alloc (.cells (insA I) 59)) w.heap.size #[.int .i64 (C).stage, .slice (some ⟨b, off, none⟩) n cap, .int .i64 (C).regs, .int .i64 (C).attr, .int .i64 (C).unif, .int .i64 (C).vary] 24) := (Blk.new w _ _).alloc _
  have HX := hide (((Ext.refl w).alloc (.cells #[.int .i64 (C).stage, .slice (some ⟨b, off, none⟩) n cap, .int .i64 (C).regs, .int .i64 (C).attr, .int .i64 (C).unif, .int .i64 (C).vary] 24)).alloc (.cells (insA I) 59))
  have HRG := hide (rng_ext hrg ((Ext.refl w).alloc (.cells #[.int .i64 (C).stage, .slice (some ⟨b, off, none⟩) n cap, .int .i64 (C).regs, .int .i64 (C).attr, .int .i64 (C).unif, .int .i64 (C).vary] 24)))
  obtain ⟨i0, i1, i2, i3, i4, i5, i6, i7⟩ := cellJ (unhide HI)
  obtain ⟨p0, p1, p2, p3⟩ := cellP (unhide HI)
  obtain ⟨z0, z1, z2, z3, z4, z5⟩ := cellC (unhide HC)
  have hkn : (k : Int) < (n : Int) := by omega
  clear hrg z2 z3 z4 z5
  rw [h0] at i0
  clear h0
  go_enter Tryz.func98, Tryz.ntmps98
  go_wp2_with (first
    | (refine wpList_load_mid rfl 59 (.tmp 9) rfl b (off + k * 16) rfl (insA I).toList _ (unhide HRG) Tryz.underlying59 rfl sizeI16 ?_; rw [Array.toArray_toList])
    | refine wpList_storeLast rfl 59 (.tmp 5) (.tmp 10) rfl _ (w.heap.size + 1) (by simp) rfl (insA I) rfl 16 sizeI16 rfl rfl (insA_one I) ?_
    | refine wpList_load_row rfl 24 (.tmp 2) rfl w.heap.size rfl 24 #[.int .i64 (C).stage, .slice (some ⟨b, off, none⟩) n cap, .int .i64 (C).regs, .int .i64 (C).attr, .int .i64 (C).unif, .int .i64 (C).vary] (0, 0) _ (unhide HC) Tryz.underlying24 rfl size6 ?_
    | refine wpList_load_row rfl 59 (.tmp 5) rfl (w.heap.size + 1) rfl 59 (insA I) (0, 0) _ (unhide HI) Tryz.underlying59 rfl sizeI16 ?_
    | (go_at_call 136; refine (store_any C _ I _).mono ?_; rintro e w5 ⟨rfl, hx5⟩; have HX5 := hide ((unhide HX).trans hx5); clear hx5))
  go_ret
  exact ⟨rfl, unhide HX5⟩
end Go.Proofs.YtglfhmlcmffoaaaGreat
