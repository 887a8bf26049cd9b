/-
  Codes: the walk of fieldsMayBe, Op by Op (8, 10, 11, 12, none). What the dump lacks is left out.
-/
import Derived.Test.YtglfhmlcmffoaaaGreatCHJ
import Derived.Deep.Cut
namespace Go.Proofs.YtglfhmlcmffoaaaGreat
open Go.RowKit
set_option linter.unusedVariables false
set_option linter.unusedSimpArgs false

set_option maxRecDepth 10000 in
set_option maxHeartbeats 4000000 in
theorem fld_8 (C : Cod) (v : Value) (L : List (Nat → Int)) (k : Nat) (w : World) (h : IR w v L) (hk : k < L.length) (h0 : L[k] 0 = 8) : Calls Tryz.prog 98 #[.agg #[.int .i64 (C).stage, v, .int .i64 (C).regs, .int .i64 (C).attr, .int .i64 (C).unif, .int .i64 (C).vary], .int .i64 (k : Int)] w fun e w' => e = .returned (.bool (fldB C L.length k L[k])) ∧ Ext w w' := by
  obtain ⟨ao, cap, rfl, hn0, hlc, hcm, hat⟩ := h
  obtain ⟨b, off, rfl, hrg⟩ := hat k hk
  have E : Hid (fldB C L.length k L[k] = (cntB (L[k] 3) && (baseB (L[k] 2) && baseB (L[k] 1)))) := by
    simp [Hid, fldB, h0]
  rw [unhide E]
  clear E hat hn0
  generalize L[k] = I at *
  generalize L.length = n at *
  unfold maxLen at hcm
  have HI : Hid (Blk ((w.alloc (.cells #[.int .i64 (C).stage, .slice (some ⟨b, off, none⟩) n cap, .int .i64 (C).regs, .int .i64 (C).attr, .int .i64 (C).unif, .int .i64 (C).vary] 24)).alloc (.cells (insA I) 59)) (w.heap.size + 1) (insA I) 59) := Blk.here (by simp)
  have HC : Hid (Blk ((w.alloc (.cells #[.int .i64 (C).stage, .slice (some ⟨b, off, none⟩) n cap, .int .i64 (C).regs, .int .i64 (C).attr, .int .i64 (C).unif, .int .i64 (C).vary] 24)).alloc (.cells (insA I) 59)) w.heap.size #[.int .i64 (C).stage, .slice (some ⟨b, off, none⟩) n cap, .int .i64 (C).regs, .int .i64 (C).attr, .int .i64 (C).unif, .int .i64 (C).vary] 24) := (Blk.new w _ _).alloc _
  have HX := hide (((Ext.refl w).alloc (.cells #[.int .i64 (C).stage, .slice (some ⟨b, off, none⟩) n cap, .int .i64 (C).regs, .int .i64 (C).attr, .int .i64 (C).unif, .int .i64 (C).vary] 24)).alloc (.cells (insA I) 59))
  have HRG := hide (rng_ext hrg ((Ext.refl w).alloc (.cells #[.int .i64 (C).stage, .slice (some ⟨b, off, none⟩) n cap, .int .i64 (C).regs, .int .i64 (C).attr, .int .i64 (C).unif, .int .i64 (C).vary] 24)))
  obtain ⟨i0, i1, i2, i3, i4, i5, i6, i7⟩ := cellJ (unhide HI)
  obtain ⟨p0, p1, p2, p3⟩ := cellP (unhide HI)
  obtain ⟨z0, z1, z2, z3, z4, z5⟩ := cellC (unhide HC)
  have hkn : (k : Int) < (n : Int) := by omega
  clear hrg z2 z3 z4 z5
  rw [h0] at i0
  clear h0
  cases q1 : cntB (I 3) <;> cases q2 : baseB (I 2)
  all_goals
    simp only [Bool.true_and, Bool.false_and]
    go_enter Tryz.func98, Tryz.ntmps98
    go_wp2_with (first
      | (refine wpList_load_mid rfl 59 (.tmp 9) rfl b (off + k * 16) rfl (insA I).toList _ (unhide HRG) Tryz.underlying59 rfl sizeI16 ?_; rw [Array.toArray_toList])
      | refine wpList_storeLast rfl 59 (.tmp 5) (.tmp 10) rfl _ (w.heap.size + 1) (by simp) rfl (insA I) rfl 16 sizeI16 rfl rfl (insA_one I) ?_
      | (go_at_call 137; refine (isCount_any _ _).mono ?_; rintro e w1 ⟨rfl, rfl⟩)
      | (go_at_call 64; refine (isBase_any _ _).mono ?_; rintro e w1 ⟨rfl, rfl⟩))
    go_ret
    exact ⟨rfl, unhide HX⟩

set_option maxRecDepth 10000 in
set_option maxHeartbeats 4000000 in
theorem fld_10 (C : Cod) (v : Value) (L : List (Nat → Int)) (k : Nat) (w : World) (h : IR w v L) (hk : k < L.length) (h0 : L[k] 0 = 10) : Calls Tryz.prog 98 #[.agg #[.int .i64 (C).stage, v, .int .i64 (C).regs, .int .i64 (C).attr, .int .i64 (C).unif, .int .i64 (C).vary], .int .i64 (k : Int)] w fun e w' => e = .returned (.bool (fldB C L.length k L[k])) ∧ Ext w w' := by
  obtain ⟨ao, cap, rfl, hn0, hlc, hcm, hat⟩ := h
  obtain ⟨b, off, rfl, hrg⟩ := hat k hk
  have E : Hid (fldB C L.length k L[k] = (decide ((k : Int) < L[k] 5) && decide (L[k] 5 ≤ (L.length : Int)))) := by
    simp [Hid, fldB, h0]
  rw [unhide E]
  clear E hat hn0
  generalize L[k] = I at *
  generalize L.length = n at *
  unfold maxLen at hcm
  have HI : Hid (Blk ((w.alloc (.cells #[.int .i64 (C).stage, .slice (some ⟨b, off, none⟩) n cap, .int .i64 (C).regs, .int .i64 (C).attr, .int .i64 (C).unif, .int .i64 (C).vary] 24)).alloc (.cells (insA I) 59)) (w.heap.size + 1) (insA I) 59) := Blk.here (by simp)
  have HC : Hid (Blk ((w.alloc (.cells #[.int .i64 (C).stage, .slice (some ⟨b, off, none⟩) n cap, .int .i64 (C).regs, .int .i64 (C).attr, .int .i64 (C).unif, .int .i64 (C).vary] 24)).alloc (.cells (insA I) 59)) w.heap.size #[.int .i64 (C).stage, .slice (some ⟨b, off, none⟩) n cap, .int .i64 (C).regs, .int .i64 (C).attr, .int .i64 (C).unif, .int .i64 (C).vary] 24) := (Blk.new w _ _).alloc _
  have HX := hide (((Ext.refl w).alloc (.cells #[.int .i64 (C).stage, .slice (some ⟨b, off, none⟩) n cap, .int .i64 (C).regs, .int .i64 (C).attr, .int .i64 (C).unif, .int .i64 (C).vary] 24)).alloc (.cells (insA I) 59))
  have HRG := hide (rng_ext hrg ((Ext.refl w).alloc (.cells #[.int .i64 (C).stage, .slice (some ⟨b, off, none⟩) n cap, .int .i64 (C).regs, .int .i64 (C).attr, .int .i64 (C).unif, .int .i64 (C).vary] 24)))
  obtain ⟨i0, i1, i2, i3, i4, i5, i6, i7⟩ := cellJ (unhide HI)
  obtain ⟨p0, p1, p2, p3⟩ := cellP (unhide HI)
  obtain ⟨z0, z1, z2, z3, z4, z5⟩ := cellC (unhide HC)
  have hkn : (k : Int) < (n : Int) := by omega
  clear hrg z2 z3 z4 z5
  rw [h0] at i0
  clear h0
  by_cases q1 : (k : Int) < I 5
  · have d1 : decide ((k : Int) < I 5) = true := decide_eq_true q1
    rw [d1, Bool.true_and]
    go_enter Tryz.func98, Tryz.ntmps98
    go_wp2_with (first
      | (refine wpList_load_mid rfl 59 (.tmp 9) rfl b (off + k * 16) rfl (insA I).toList _ (unhide HRG) Tryz.underlying59 rfl sizeI16 ?_; rw [Array.toArray_toList])
      | refine wpList_storeLast rfl 59 (.tmp 5) (.tmp 10) rfl _ (w.heap.size + 1) (by simp) rfl (insA I) rfl 16 sizeI16 rfl rfl (insA_one I) ?_)
    go_ret
    exact ⟨rfl, unhide HX⟩
  · have d1 : decide ((k : Int) < I 5) = false := decide_eq_false q1
    rw [d1, Bool.false_and]
    go_enter Tryz.func98, Tryz.ntmps98
    go_wp2_with (first
      | (refine wpList_load_mid rfl 59 (.tmp 9) rfl b (off + k * 16) rfl (insA I).toList _ (unhide HRG) Tryz.underlying59 rfl sizeI16 ?_; rw [Array.toArray_toList])
      | refine wpList_storeLast rfl 59 (.tmp 5) (.tmp 10) rfl _ (w.heap.size + 1) (by simp) rfl (insA I) rfl 16 sizeI16 rfl rfl (insA_one I) ?_)
    go_ret
    exact ⟨rfl, unhide HX⟩

set_option maxRecDepth 10000 in
set_option maxHeartbeats 4000000 in
theorem fld_11 (C : Cod) (v : Value) (L : List (Nat → Int)) (k : Nat) (w : World) (h : IR w v L) (hk : k < L.length) (h0 : L[k] 0 = 11) : Calls Tryz.prog 98 #[.agg #[.int .i64 (C).stage, v, .int .i64 (C).regs, .int .i64 (C).attr, .int .i64 (C).unif, .int .i64 (C).vary], .int .i64 (k : Int)] w fun e w' => e = .returned (.bool (fldB C L.length k L[k])) ∧ Ext w w' := by
  obtain ⟨ao, cap, rfl, hn0, hlc, hcm, hat⟩ := h
  obtain ⟨b, off, rfl, hrg⟩ := hat k hk
  have E : Hid (fldB C L.length k L[k] = (decide ((k : Int) < L[k] 5) && decide (L[k] 5 ≤ (L.length : Int)))) := by
    simp [Hid, fldB, h0]
  rw [unhide E]
  clear E hat hn0
  generalize L[k] = I at *
  generalize L.length = n at *
  unfold maxLen at hcm
  have HI : Hid (Blk ((w.alloc (.cells #[.int .i64 (C).stage, .slice (some ⟨b, off, none⟩) n cap, .int .i64 (C).regs, .int .i64 (C).attr, .int .i64 (C).unif, .int .i64 (C).vary] 24)).alloc (.cells (insA I) 59)) (w.heap.size + 1) (insA I) 59) := Blk.here (by simp)
  have HC : Hid (Blk ((w.alloc (.cells #[.int .i64 (C).stage, .slice (some ⟨b, off, none⟩) n cap, .int .i64 (C).regs, .int .i64 (C).attr, .int .i64 (C).unif, .int .i64 (C).vary] 24)).alloc (.cells (insA I) 59)) w.heap.size #[.int .i64 (C).stage, .slice (some ⟨b, off, none⟩) n cap, .int .i64 (C).regs, .int .i64 (C).attr, .int .i64 (C).unif, .int .i64 (C).vary] 24) := (Blk.new w _ _).alloc _
  have HX := hide (((Ext.refl w).alloc (.cells #[.int .i64 (C).stage, .slice (some ⟨b, off, none⟩) n cap, .int .i64 (C).regs, .int .i64 (C).attr, .int .i64 (C).unif, .int .i64 (C).vary] 24)).alloc (.cells (insA I) 59))
  have HRG := hide (rng_ext hrg ((Ext.refl w).alloc (.cells #[.int .i64 (C).stage, .slice (some ⟨b, off, none⟩) n cap, .int .i64 (C).regs, .int .i64 (C).attr, .int .i64 (C).unif, .int .i64 (C).vary] 24)))
  obtain ⟨i0, i1, i2, i3, i4, i5, i6, i7⟩ := cellJ (unhide HI)
  obtain ⟨p0, p1, p2, p3⟩ := cellP (unhide HI)
  obtain ⟨z0, z1, z2, z3, z4, z5⟩ := cellC (unhide HC)
  have hkn : (k : Int) < (n : Int) := by omega
  clear hrg z2 z3 z4 z5
  rw [h0] at i0
  clear h0
  by_cases q1 : (k : Int) < I 5
  · have d1 : decide ((k : Int) < I 5) = true := decide_eq_true q1
    rw [d1, Bool.true_and]
    go_enter Tryz.func98, Tryz.ntmps98
    go_wp2_with (first
      | (refine wpList_load_mid rfl 59 (.tmp 9) rfl b (off + k * 16) rfl (insA I).toList _ (unhide HRG) Tryz.underlying59 rfl sizeI16 ?_; rw [Array.toArray_toList])
      | refine wpList_storeLast rfl 59 (.tmp 5) (.tmp 10) rfl _ (w.heap.size + 1) (by simp) rfl (insA I) rfl 16 sizeI16 rfl rfl (insA_one I) ?_)
    go_ret
    exact ⟨rfl, unhide HX⟩
  · have d1 : decide ((k : Int) < I 5) = false := decide_eq_false q1
    rw [d1, Bool.false_and]
    go_enter Tryz.func98, Tryz.ntmps98
    go_wp2_with (first
      | (refine wpList_load_mid rfl 59 (.tmp 9) rfl b (off + k * 16) rfl (insA I).toList _ (unhide HRG) Tryz.underlying59 rfl sizeI16 ?_; rw [Array.toArray_toList])
      | refine wpList_storeLast rfl 59 (.tmp 5) (.tmp 10) rfl _ (w.heap.size + 1) (by simp) rfl (insA I) rfl 16 sizeI16 rfl rfl (insA_one I) ?_)
    go_ret
    exact ⟨rfl, unhide HX⟩

set_option maxRecDepth 10000 in
set_option maxHeartbeats 4000000 in
theorem fld_12 (C : Cod) (v : Value) (L : List (Nat → Int)) (k : Nat) (w : World) (h : IR w v L) (hk : k < L.length) (h0 : L[k] 0 = 12) : Calls Tryz.prog 98 #[.agg #[.int .i64 (C).stage, v, .int .i64 (C).regs, .int .i64 (C).attr, .int .i64 (C).unif, .int .i64 (C).vary], .int .i64 (k : Int)] w fun e w' => e = .returned (.bool (fldB C L.length k L[k])) ∧ Ext w w' := by
  obtain ⟨ao, cap, rfl, hn0, hlc, hcm, hat⟩ := h
  obtain ⟨b, off, rfl, hrg⟩ := hat k hk
  have E : Hid (fldB C L.length k L[k] = (C.stage == 2)) := by
    simp [Hid, fldB, h0]
  rw [unhide E]
  clear E hat hn0
  generalize L[k] = I at *
  generalize L.length = n at *
  unfold maxLen at hcm
  have HI : Hid (Blk ((w.alloc (.cells #[.int .i64 (C).stage, .slice (some ⟨b, off, none⟩) n cap, .int .i64 (C).regs, .int .i64 (C).attr, .int .i64 (C).unif, .int .i64 (C).vary] 24)).alloc (.cells (insA I) 59)) (w.heap.size + 1) (insA I) 59) := Blk.here (by simp)
  have HC : Hid (Blk ((w.alloc (.cells #[.int .i64 (C).stage, .slice (some ⟨b, off, none⟩) n cap, .int .i64 (C).regs, .int .i64 (C).attr, .int .i64 (C).unif, .int .i64 (C).vary] 24)).alloc (.cells (insA I) 59)) w.heap.size #[.int .i64 (C).stage, .slice (some ⟨b, off, none⟩) n cap, .int .i64 (C).regs, .int .i64 (C).attr, .int .i64 (C).unif, .int .i64 (C).vary] 24) := (Blk.new w _ _).alloc _
  have HX := hide (((Ext.refl w).alloc (.cells #[.int .i64 (C).stage, .slice (some ⟨b, off, none⟩) n cap, .int .i64 (C).regs, .int .i64 (C).attr, .int .i64 (C).unif, .int .i64 (C).vary] 24)).alloc (.cells (insA I) 59))
  have HRG := hide (rng_ext hrg ((Ext.refl w).alloc (.cells #[.int .i64 (C).stage, .slice (some ⟨b, off, none⟩) n cap, .int .i64 (C).regs, .int .i64 (C).attr, .int .i64 (C).unif, .int .i64 (C).vary] 24)))
  obtain ⟨i0, i1, i2, i3, i4, i5, i6, i7⟩ := cellJ (unhide HI)
  obtain ⟨p0, p1, p2, p3⟩ := cellP (unhide HI)
  obtain ⟨z0, z1, z2, z3, z4, z5⟩ := cellC (unhide HC)
  have hkn : (k : Int) < (n : Int) := by omega
  clear hrg z2 z3 z4 z5
  rw [h0] at i0
  clear h0
  go_enter Tryz.func98, Tryz.ntmps98
  go_wp2_with (first
    | (refine wpList_load_mid rfl 59 (.tmp 9) rfl b (off + k * 16) rfl (insA I).toList _ (unhide HRG) Tryz.underlying59 rfl sizeI16 ?_; rw [Array.toArray_toList])
    | refine wpList_storeLast rfl 59 (.tmp 5) (.tmp 10) rfl _ (w.heap.size + 1) (by simp) rfl (insA I) rfl 16 sizeI16 rfl rfl (insA_one I) ?_)
  go_ret
  exact ⟨rfl, unhide HX⟩

set_option maxRecDepth 10000 in
set_option maxHeartbeats 4000000 in
theorem fld_none (C : Cod) (v : Value) (L : List (Nat → Int)) (k : Nat) (w : World) (h : IR w v L) (hk : k < L.length) (h0 : L[k] 0 < 1 ∨ 12 < L[k] 0) : Calls Tryz.prog 98 #[.agg #[.int .i64 (C).stage, v, .int .i64 (C).regs, .int .i64 (C).attr, .int .i64 (C).unif, .int .i64 (C).vary], .int .i64 (k : Int)] w fun e w' => e = .returned (.bool (fldB C L.length k L[k])) ∧ Ext w w' := by
  obtain ⟨ao, cap, rfl, hn0, hlc, hcm, hat⟩ := h
  obtain ⟨b, off, rfl, hrg⟩ := hat k hk
  have E : Hid (fldB C L.length k L[k] = false) := by
    have h1 : ∀ c : Int, 1 ≤ c → c ≤ 12 → ¬ L[k] 0 = c := fun c h1 h2 => by omega
    simp [Hid, fldB, h1]
  rw [unhide E]
  clear E hat hn0
  generalize L[k] = I at *
  generalize L.length = n at *
  unfold maxLen at hcm
  have HI : Hid (Blk ((w.alloc (.cells #[.int .i64 (C).stage, .slice (some ⟨b, off, none⟩) n cap, .int .i64 (C).regs, .int .i64 (C).attr, .int .i64 (C).unif, .int .i64 (C).vary] 24)).alloc (.cells (insA I) 59)) (w.heap.size + 1) (insA I) 59) := Blk.here (by simp)
  have HC : Hid (Blk ((w.alloc (.cells #[.int .i64 (C).stage, .slice (some ⟨b, off, none⟩) n cap, .int .i64 (C).regs, .int .i64 (C).attr, .int .i64 (C).unif, .int .i64 (C).vary] 24)).alloc (.cells (insA I) 59)) w.heap.size #[.int .i64 (C).stage, .slice (some ⟨b, off, none⟩) n cap, .int .i64 (C).regs, .int .i64 (C).attr, .int .i64 (C).unif, .int .i64 (C).vary] 24) := (Blk.new w _ _).alloc _
  have HX := hide (((Ext.refl w).alloc (.cells #[.int .i64 (C).stage, .slice (some ⟨b, off, none⟩) n cap, .int .i64 (C).regs, .int .i64 (C).attr, .int .i64 (C).unif, .int .i64 (C).vary] 24)).alloc (.cells (insA I) 59))
  have HRG := hide (rng_ext hrg ((Ext.refl w).alloc (.cells #[.int .i64 (C).stage, .slice (some ⟨b, off, none⟩) n cap, .int .i64 (C).regs, .int .i64 (C).attr, .int .i64 (C).unif, .int .i64 (C).vary] 24)))
  obtain ⟨i0, i1, i2, i3, i4, i5, i6, i7⟩ := cellJ (unhide HI)
  obtain ⟨p0, p1, p2, p3⟩ := cellP (unhide HI)
  obtain ⟨z0, z1, z2, z3, z4, z5⟩ := cellC (unhide HC)
  have hkn : (k : Int) < (n : Int) := by omega
  clear hrg z2 z3 z4 z5
  have d1 : (I 0 == 1) = false := beq_eq_false_iff_ne.2 (by omega)
  have d2 : (I 0 == 2) = false := beq_eq_false_iff_ne.2 (by omega)
  have d3 : (I 0 == 3) = false := beq_eq_false_iff_ne.2 (by omega)
  have d4 : (I 0 == 4) = false := beq_eq_false_iff_ne.2 (by omega)
  have d5 : (I 0 == 5) = false := beq_eq_false_iff_ne.2 (by omega)
  have d6 : (I 0 == 6) = false := beq_eq_false_iff_ne.2 (by omega)
  have d7 : (I 0 == 7) = false := beq_eq_false_iff_ne.2 (by omega)
  have d8 : (I 0 == 8) = false := beq_eq_false_iff_ne.2 (by omega)
  have d9 : (I 0 == 9) = false := beq_eq_false_iff_ne.2 (by omega)
  have d10 : (I 0 == 10) = false := beq_eq_false_iff_ne.2 (by omega)
  have d11 : (I 0 == 11) = false := beq_eq_false_iff_ne.2 (by omega)
  have d12 : (I 0 == 12) = false := beq_eq_false_iff_ne.2 (by omega)
  clear h0
  go_enter Tryz.func98, Tryz.ntmps98
  go_wp2_with (first
    | (refine wpList_load_mid rfl 59 (.tmp 9) rfl b (off + k * 16) rfl (insA I).toList _ (unhide HRG) Tryz.underlying59 rfl sizeI16 ?_; rw [Array.toArray_toList])
    | refine wpList_storeLast rfl 59 (.tmp 5) (.tmp 10) rfl _ (w.heap.size + 1) (by simp) rfl (insA I) rfl 16 sizeI16 rfl rfl (insA_one I) ?_)
  go_ret
  exact ⟨rfl, unhide HX⟩
end Go.Proofs.YtglfhmlcmffoaaaGreat
