/-
  Codes: the walk of fieldsMayBe, Op by Op (5, 6). What the dump lacks is left out.
-/
import Derived.Test.YtglfhmlcmffoaaaGreatCHJ
import Derived.Deep.Cut
namespace Go.Proofs.YtglfhmlcmffoaaaGreat
open Go.RowKit
set_option linter.unusedVariables false
set_option linter.unusedSimpArgs false

set_option maxRecDepth 10000 in
set_option maxHeartbeats 4000000 in
theorem fld_5 (C : Cod) (v : Value) (L : List (Nat → Int)) (k : Nat) (w : World) (h : IR w v L) (hk : k < L.length) (h0 : L[k] 0 = 5) : Calls Tryz.prog 98 #[.agg #[.int .i64 (C).stage, v, .int .i64 (C).regs, .int .i64 (C).attr, .int .i64 (C).unif, .int .i64 (C).vary], .int .i64 (k : Int)] w fun e w' => e = .returned (.bool (fldB C L.length k L[k])) ∧ Ext w w' := by
  obtain ⟨ao, cap, rfl, hn0, hlc, hcm, hat⟩ := h
  obtain ⟨b, off, rfl, hrg⟩ := hat k hk
  have E : Hid (fldB C L.length k L[k] = (decide (0 < argsP (L[k] 1) (L[k] 2)) && cntB (L[k] 3))) := by
    simp [Hid, fldB, h0]
  rw [unhide E]
  clear E hat hn0
  generalize L[k] = I at *
  generalize L.length = n at *
  unfold maxLen at hcm
  have HI : Hid (Blk ((w.alloc (.cells #[.int .i64 (C).stage, .slice (some ⟨b, off, none⟩) n cap, .int .i64 (C).regs, .int .i64 (C).attr, .int .i64 (C).unif, .int .i64 (C).vary] 24)).alloc (.cells (insA I) 59)) (w.heap.size + 1) (insA I) 59) := Blk.here (by simp)
  have HC : Hid (Blk ((w.alloc (.cells #[.int .i64 (C).stage, .slice (some ⟨b, off, none⟩) n cap, .int .i64 (C).regs, .int .i64 (C).attr, .int .i64 (C).unif, .int .i64 (C).vary] 24)).alloc (.cells (insA I) 59)) w.heap.size #[.int .i64 (C).stage, .slice (some ⟨b, off, none⟩) n cap, .int .i64 (C).regs, .int .i64 (C).attr, .int .i64 (C).unif, .int .i64 (C).vary] 24) := (Blk.new w _ _).alloc _
  have HX := hide (((Ext.refl w).alloc (.cells #[.int .i64 (C).stage, .slice (some ⟨b, off, none⟩) n cap, .int .i64 (C).regs, .int .i64 (C).attr, .int .i64 (C).unif, .int .i64 (C).vary] 24)).alloc (.cells (insA I) 59))
  have HRG := hide (rng_ext hrg ((Ext.refl w).alloc (.cells #[.int .i64 (C).stage, .slice (some ⟨b, off, none⟩) n cap, .int .i64 (C).regs, .int .i64 (C).attr, .int .i64 (C).unif, .int .i64 (C).vary] 24)))
  obtain ⟨i0, i1, i2, i3, i4, i5, i6, i7⟩ := cellJ (unhide HI)
  obtain ⟨p0, p1, p2, p3⟩ := cellP (unhide HI)
  obtain ⟨z0, z1, z2, z3, z4, z5⟩ := cellC (unhide HC)
  have hkn : (k : Int) < (n : Int) := by omega
  clear hrg z2 z3 z4 z5
  rw [h0] at i0
  clear h0
  have HA := hide (args_any (I 1) (I 2))
  generalize argsP (I 1) (I 2) = m at *
  by_cases hm : 0 < m
  · have hd : decide (0 < m) = true := decide_eq_true hm
    rw [hd, Bool.true_and]
    have hm' : (0 : Int) < (m : Int) := by omega
    go_enter Tryz.func98, Tryz.ntmps98
    go_wp2_with (first
      | (refine wpList_load_mid rfl 59 (.tmp 9) rfl b (off + k * 16) rfl (insA I).toList _ (unhide HRG) Tryz.underlying59 rfl sizeI16 ?_; rw [Array.toArray_toList])
      | refine wpList_storeLast rfl 59 (.tmp 5) (.tmp 10) rfl _ (w.heap.size + 1) (by simp) rfl (insA I) rfl 16 sizeI16 rfl rfl (insA_one I) ?_
      | (go_at_call 137; refine (isCount_any _ _).mono ?_; rintro e w1 ⟨rfl, rfl⟩)
      | (go_at_call 37; refine (unhide HA _).mono ?_; rintro e w1 ⟨rfl, rfl⟩))
    go_ret
    exact ⟨rfl, unhide HX⟩
  · have hd : decide (0 < m) = false := decide_eq_false hm
    rw [hd, Bool.false_and]
    have hm' : ¬ (0 : Int) < (m : Int) := by omega
    go_enter Tryz.func98, Tryz.ntmps98
    go_wp2_with (first
      | (refine wpList_load_mid rfl 59 (.tmp 9) rfl b (off + k * 16) rfl (insA I).toList _ (unhide HRG) Tryz.underlying59 rfl sizeI16 ?_; rw [Array.toArray_toList])
      | refine wpList_storeLast rfl 59 (.tmp 5) (.tmp 10) rfl _ (w.heap.size + 1) (by simp) rfl (insA I) rfl 16 sizeI16 rfl rfl (insA_one I) ?_
      | (go_at_call 137; refine (isCount_any _ _).mono ?_; rintro e w1 ⟨rfl, rfl⟩)
      | (go_at_call 37; refine (unhide HA _).mono ?_; rintro e w1 ⟨rfl, rfl⟩))
    go_ret
    exact ⟨rfl, unhide HX⟩

set_option maxRecDepth 10000 in
set_option maxHeartbeats 4000000 in
theorem fld_6 (C : Cod) (v : Value) (L : List (Nat → Int)) (k : Nat) (w : World) (h : IR w v L) (hk : k < L.length) (h0 : L[k] 0 = 6) : Calls Tryz.prog 98 #[.agg #[.int .i64 (C).stage, v, .int .i64 (C).regs, .int .i64 (C).attr, .int .i64 (C).unif, .int .i64 (C).vary], .int .i64 (k : Int)] w fun e w' => e = .returned (.bool (fldB C L.length k L[k])) ∧ Ext w w' := by
  obtain ⟨ao, cap, rfl, hn0, hlc, hcm, hat⟩ := h
  obtain ⟨b, off, rfl, hrg⟩ := hat k hk
  have E : Hid (fldB C L.length k L[k] = (cntB (L[k] 3) && plcB L[k])) := by
    simp [Hid, fldB, h0]
  rw [unhide E]
  clear E hat hn0
  generalize L[k] = I at *
  generalize L.length = n at *
  unfold maxLen at hcm
  have HI : Hid (Blk ((w.alloc (.cells #[.int .i64 (C).stage, .slice (some ⟨b, off, none⟩) n cap, .int .i64 (C).regs, .int .i64 (C).attr, .int .i64 (C).unif, .int .i64 (C).vary] 24)).alloc (.cells (insA I) 59)) (w.heap.size + 1) (insA I) 59) := Blk.here (by simp)
  have HC : Hid (Blk ((w.alloc (.cells #[.int .i64 (C).stage, .slice (some ⟨b, off, none⟩) n cap, .int .i64 (C).regs, .int .i64 (C).attr, .int .i64 (C).unif, .int .i64 (C).vary] 24)).alloc (.cells (insA I) 59)) w.heap.size #[.int .i64 (C).stage, .slice (some ⟨b, off, none⟩) n cap, .int .i64 (C).regs, .int .i64 (C).attr, .int .i64 (C).unif, .int .i64 (C).vary] 24) := (Blk.new w _ _).alloc _
  have HX := hide (((Ext.refl w).alloc (.cells #[.int .i64 (C).stage, .slice (some ⟨b, off, none⟩) n cap, .int .i64 (C).regs, .int .i64 (C).attr, .int .i64 (C).unif, .int .i64 (C).vary] 24)).alloc (.cells (insA I) 59))
  have HRG := hide (rng_ext hrg ((Ext.refl w).alloc (.cells #[.int .i64 (C).stage, .slice (some ⟨b, off, none⟩) n cap, .int .i64 (C).regs, .int .i64 (C).attr, .int .i64 (C).unif, .int .i64 (C).vary] 24)))
  obtain ⟨i0, i1, i2, i3, i4, i5, i6, i7⟩ := cellJ (unhide HI)
  obtain ⟨p0, p1, p2, p3⟩ := cellP (unhide HI)
  obtain ⟨z0, z1, z2, z3, z4, z5⟩ := cellC (unhide HC)
  have hkn : (k : Int) < (n : Int) := by omega
  clear hrg z2 z3 z4 z5
  rw [h0] at i0
  clear h0
  have HPR : Hid (((w.alloc (.cells #[.int .i64 (C).stage, .slice (some ⟨b, off, none⟩) n cap, .int .i64 (C).regs, .int .i64 (C).attr, .int .i64 (C).unif, .int .i64 (C).vary] 24)).alloc (.cells (insA I) 59)).rangeAt (w.heap.size + 1) 12 [.int .i64 (I 12), .int .i64 (I 13), .int .i64 (I 14), .int .i64 (I 15)]) := by
    intro j u hu
    have hj : j < 4 := by simpa using (List.getElem?_eq_some_iff.1 hu).1
    rcases (by omega : j = 0 ∨ j = 1 ∨ j = 2 ∨ j = 3) with rfl | rfl | rfl | rfl
    · cases hu; exact p0
    · cases hu; exact p1
    · cases hu; exact p2
    · cases hu; exact p3
  cases hq : cntB (I 3)
  · rw [Bool.false_and]
    go_enter Tryz.func98, Tryz.ntmps98
    go_wp2_with (first
      | (refine wpList_load_mid rfl 59 (.tmp 9) rfl b (off + k * 16) rfl (insA I).toList _ (unhide HRG) Tryz.underlying59 rfl sizeI16 ?_; rw [Array.toArray_toList])
      | refine wpList_storeLast rfl 59 (.tmp 5) (.tmp 10) rfl _ (w.heap.size + 1) (by simp) rfl (insA I) rfl 16 sizeI16 rfl rfl (insA_one I) ?_
      | (go_at_call 137; refine (isCount_any _ _).mono ?_; rintro e w1 ⟨rfl, rfl⟩)
      | (refine wpList_load_mid rfl 57 (.tmp 46) rfl (w.heap.size + 1) 12 rfl [.int .i64 (I 12), .int .i64 (I 13), .int .i64 (I 14), .int .i64 (I 15)] _ (unhide HPR) Tryz.underlying57 rfl size4 ?_)
      | (go_at_call 138; refine (places_any _ _ _ _ _).mono ?_; rintro e w5 ⟨rfl, hx5⟩; have HX5 := hide ((unhide HX).trans hx5); clear hx5))
    go_ret
    exact ⟨rfl, unhide HX⟩
  · rw [Bool.true_and]
    show Calls _ _ _ _ (fun e w' => e = .returned (.bool (inB (I 12) 4 && (inB (I 13) 4 && (inB (I 14) 4 && inB (I 15) 4)))) ∧ Ext w w')
    go_enter Tryz.func98, Tryz.ntmps98
    go_wp2_with (first
      | (refine wpList_load_mid rfl 59 (.tmp 9) rfl b (off + k * 16) rfl (insA I).toList _ (unhide HRG) Tryz.underlying59 rfl sizeI16 ?_; rw [Array.toArray_toList])
      | refine wpList_storeLast rfl 59 (.tmp 5) (.tmp 10) rfl _ (w.heap.size + 1) (by simp) rfl (insA I) rfl 16 sizeI16 rfl rfl (insA_one I) ?_
      | (go_at_call 137; refine (isCount_any _ _).mono ?_; rintro e w1 ⟨rfl, rfl⟩)
      | (refine wpList_load_mid rfl 57 (.tmp 46) rfl (w.heap.size + 1) 12 rfl [.int .i64 (I 12), .int .i64 (I 13), .int .i64 (I 14), .int .i64 (I 15)] _ (unhide HPR) Tryz.underlying57 rfl size4 ?_)
      | (go_at_call 138; refine (places_any _ _ _ _ _).mono ?_; rintro e w5 ⟨rfl, hx5⟩; have HX5 := hide ((unhide HX).trans hx5); clear hx5))
    go_ret
    exact ⟨rfl, unhide HX5⟩
end Go.Proofs.YtglfhmlcmffoaaaGreat
