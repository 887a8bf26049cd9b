/-
  Codes: the walks of headMayBe, mayLoad, mayStore, arePlaces, hasTwice, firstPlaces. What the dump lacks is left out.
-/
import Derived.Test.YtglfhmlcmffoaaaGreatPGJ
namespace Go.Proofs.YtglfhmlcmffoaaaGreat
open Go.RowKit
set_option linter.unusedVariables false
set_option linter.unusedSimpArgs false

set_option maxRecDepth 10000 in
set_option maxHeartbeats 2000000 in
theorem head_any (C : Cod) (v : Value) (w : World) : Calls Tryz.prog 61 #[.agg #[.int .i64 (C).stage, v, .int .i64 (C).regs, .int .i64 (C).attr, .int .i64 (C).unif, .int .i64 (C).vary]] w fun e w' => e = .returned (.bool (headB C)) ∧ Ext w w' := by
  have E := hide (show headB C = if C.stage = 1 then inB C.regs 1025 && (inB C.attr 9 && (inB C.unif 33 && inB C.vary 5)) else if C.stage = 2 then inB C.regs 1025 && (inB C.attr 1 && (inB C.unif 33 && inB C.vary 5)) else false from rfl)
  generalize headB C = y at *
  have HX := hide ((Ext.refl w).alloc (.cells #[.int .i64 (C).stage, v, .int .i64 (C).regs, .int .i64 (C).attr, .int .i64 (C).unif, .int .i64 (C).vary] 24))
  by_cases h1 : C.stage = 1
  · rw [h1] at E HX ⊢
    rw [if_pos rfl] at E
    cases q1 : inB C.regs 1025 <;> cases q2 : inB C.attr 9 <;> cases q3 : inB C.unif 33 <;> cases q4 : inB C.vary 5
    all_goals
      rw [q1, q2, q3, q4] at E
      simp only [Bool.and_true, Bool.true_and, Bool.false_and, Bool.and_false] at E
      go_enter Tryz.func61, Tryz.ntmps61
      go_wp2_with (go_at_call 95; refine (isBelow_any _ _ _).mono ?_; rintro e w1 ⟨rfl, rfl⟩)
      go_ret
      rw [unhide E]
      exact ⟨rfl, unhide HX⟩
  · have d1 : (C.stage == 1) = false := beq_eq_false_iff_ne.2 h1
    rw [if_neg h1] at E
    by_cases h2 : C.stage = 2
    · clear d1 h1
      rw [h2] at E HX ⊢
      rw [if_pos rfl] at E
      cases q1 : inB C.regs 1025 <;> cases q2 : inB C.attr 1 <;> cases q3 : inB C.unif 33 <;> cases q4 : inB C.vary 5
      all_goals
        rw [q1, q2, q3, q4] at E
        simp only [Bool.and_true, Bool.true_and, Bool.false_and, Bool.and_false] at E
        go_enter Tryz.func61, Tryz.ntmps61
        go_wp2_with (go_at_call 95; refine (isBelow_any _ _ _).mono ?_; rintro e w1 ⟨rfl, rfl⟩)
        go_ret
        rw [unhide E]
        exact ⟨rfl, unhide HX⟩
    · have d2 : (C.stage == 2) = false := beq_eq_false_iff_ne.2 h2
      rw [if_neg h2] at E
      clear h1 h2
      go_enter Tryz.func61, Tryz.ntmps61
      go_wp2_with (go_at_call 95; refine (isBelow_any _ _ _).mono ?_; rintro e w1 ⟨rfl, rfl⟩)
      go_ret
      rw [unhide E]
      exact ⟨rfl, unhide HX⟩

theorem cellJ {w : World} {b : Nat} {I : Nat → Int} {t : TypeId} (h : Blk w b (insA I) t) : w.cell? ⟨b, 0, none⟩ = some (.int .i64 (I 0)) ∧ w.cell? ⟨b, 1, none⟩ = some (.int .i64 (I 1)) ∧ w.cell? ⟨b, 2, none⟩ = some (.int .i64 (I 2)) ∧ w.cell? ⟨b, 3, none⟩ = some (.int .i64 (I 3)) ∧ w.cell? ⟨b, 4, none⟩ = some (.int .i64 (I 4)) ∧ w.cell? ⟨b, 5, none⟩ = some (.int .i64 (I 5)) ∧ w.cell? ⟨b, 6, none⟩ = some (.int .i64 (I 6)) ∧ w.cell? ⟨b, 7, none⟩ = some (.int .i64 (I 7)) :=
  ⟨h.cell rfl, h.cell rfl, h.cell rfl, h.cell rfl, h.cell rfl, h.cell rfl, h.cell rfl, h.cell rfl⟩
theorem cellP {w : World} {b : Nat} {I : Nat → Int} {t : TypeId} (h : Blk w b (insA I) t) : w.cell? ⟨b, 12, none⟩ = some (.int .i64 (I 12)) ∧ w.cell? ⟨b, 13, none⟩ = some (.int .i64 (I 13)) ∧ w.cell? ⟨b, 14, none⟩ = some (.int .i64 (I 14)) ∧ w.cell? ⟨b, 15, none⟩ = some (.int .i64 (I 15)) :=
  ⟨h.cell rfl, h.cell rfl, h.cell rfl, h.cell rfl⟩
theorem cellM {w : World} {b : Nat} {I : Nat → Int} {t : TypeId} (h : Blk w b (insA I) t) : w.cell? ⟨b, 8, none⟩ = some (.int .i32 (I 8)) ∧ w.cell? ⟨b, 9, none⟩ = some (.int .i32 (I 9)) ∧ w.cell? ⟨b, 10, none⟩ = some (.int .i32 (I 10)) ∧ w.cell? ⟨b, 11, none⟩ = some (.int .i32 (I 11)) :=
  ⟨h.cell rfl, h.cell rfl, h.cell rfl, h.cell rfl⟩
theorem cellC {w : World} {b : Nat} {C : Cod} {v : Value} {t : TypeId} (h : Blk w b #[.int .i64 (C).stage, v, .int .i64 (C).regs, .int .i64 (C).attr, .int .i64 (C).unif, .int .i64 (C).vary] t) : w.cell? ⟨b, 0, none⟩ = some (.int .i64 C.stage) ∧ w.cell? ⟨b, 1, none⟩ = some v ∧ w.cell? ⟨b, 2, none⟩ = some (.int .i64 C.regs) ∧ w.cell? ⟨b, 3, none⟩ = some (.int .i64 C.attr) ∧ w.cell? ⟨b, 4, none⟩ = some (.int .i64 C.unif) ∧ w.cell? ⟨b, 5, none⟩ = some (.int .i64 C.vary) :=
  ⟨h.cell rfl, h.cell rfl, h.cell rfl, h.cell rfl, h.cell rfl, h.cell rfl⟩

set_option maxRecDepth 10000 in
set_option maxHeartbeats 4000000 in
theorem load_any (C : Cod) (v : Value) (I : Nat → Int) (w : World) : Calls Tryz.prog 135 #[.agg #[.int .i64 (C).stage, v, .int .i64 (C).regs, .int .i64 (C).attr, .int .i64 (C).unif, .int .i64 (C).vary], .agg (insA I)] w fun e w' => e = .returned (.bool (loadB C I)) ∧ Ext w w' := by
  have E := hide (show loadB C I = if I 1 = 1 then C.stage == 1 && inB (I 5) C.attr else if I 1 = 2 then inB (I 5) C.unif else if I 1 = 3 then C.stage == 2 && inB (I 5) C.vary else if I 1 = 4 ∨ I 1 = 5 ∨ I 1 = 6 then C.stage == 2 && I 5 == 0 else false from rfl)
  generalize loadB C I = y at *
  have HX := hide (((Ext.refl w).alloc (.cells #[.int .i64 (C).stage, v, .int .i64 (C).regs, .int .i64 (C).attr, .int .i64 (C).unif, .int .i64 (C).vary] 24)).alloc (.cells (insA I) 59))
  obtain ⟨i0, i1, i2, i3, i4, i5, i6, i7⟩ := cellJ (Blk.here (w := w.alloc (.cells #[.int .i64 (C).stage, v, .int .i64 (C).regs, .int .i64 (C).attr, .int .i64 (C).unif, .int .i64 (C).vary] 24)) (b := w.heap.size + 1) (cs := insA I) (t := 59) (by simp))
  generalize insA I = cs at *
  generalize I 1 = f at *
  generalize I 5 = a at *
  clear i0 i2 i3 i4 i6 i7
  cases q1 : (C.stage == 1) <;> cases q2 : (C.stage == 2)
  all_goals
    rw [q1, q2] at E
    simp only [Bool.and_true, Bool.true_and, Bool.false_and, Bool.and_false] at E
    go_enter Tryz.func135, Tryz.ntmps135
    go_wp2_with (go_at_call 95; refine (isBelow_any _ _ _).mono ?_; rintro e w1 ⟨rfl, rfl⟩)
  all_goals
    go_ret
    have e := unhide E
    refine ⟨?_, unhide HX⟩
    simp only [beq_iff_eq, beq_eq_false_iff_ne, ne_eq] at *
    repeat first | rw [if_pos (by omega)] at e | rw [if_neg (by omega)] at e
    rw [e]
    rfl

set_option maxRecDepth 10000 in
set_option maxHeartbeats 4000000 in
theorem store_any (C : Cod) (v : Value) (I : Nat → Int) (w : World) : Calls Tryz.prog 136 #[.agg #[.int .i64 (C).stage, v, .int .i64 (C).regs, .int .i64 (C).attr, .int .i64 (C).unif, .int .i64 (C).vary], .agg (insA I)] w fun e w' => e = .returned (.bool (storB C I)) ∧ Ext w w' := by
  have E := hide (show storB C I = if I 1 = 1 ∨ I 1 = 2 then C.stage == 1 && I 5 == 0 else if I 1 = 3 then C.stage == 1 && inB (I 5) C.vary else if I 1 = 4 then C.stage == 2 && I 5 == 0 else false from rfl)
  generalize storB C I = y at *
  have HX := hide (((Ext.refl w).alloc (.cells #[.int .i64 (C).stage, v, .int .i64 (C).regs, .int .i64 (C).attr, .int .i64 (C).unif, .int .i64 (C).vary] 24)).alloc (.cells (insA I) 59))
  obtain ⟨i0, i1, i2, i3, i4, i5, i6, i7⟩ := cellJ (Blk.here (w := w.alloc (.cells #[.int .i64 (C).stage, v, .int .i64 (C).regs, .int .i64 (C).attr, .int .i64 (C).unif, .int .i64 (C).vary] 24)) (b := w.heap.size + 1) (cs := insA I) (t := 59) (by simp))
  generalize insA I = cs at *
  generalize I 1 = f at *
  generalize I 5 = a at *
  clear i0 i2 i3 i4 i6 i7
  cases q1 : (C.stage == 1) <;> cases q2 : (C.stage == 2)
  all_goals
    rw [q1, q2] at E
    simp only [Bool.and_true, Bool.true_and, Bool.false_and, Bool.and_false] at E
    go_enter Tryz.func136, Tryz.ntmps136
    go_wp2_with (go_at_call 95; refine (isBelow_any _ _ _).mono ?_; rintro e w1 ⟨rfl, rfl⟩)
  all_goals
    go_ret
    have e := unhide E
    refine ⟨?_, unhide HX⟩
    simp only [beq_iff_eq, beq_eq_false_iff_ne, ne_eq] at *
    repeat first | rw [if_pos (by omega)] at e | rw [if_neg (by omega)] at e
    rw [e]
    rfl
end Go.Proofs.YtglfhmlcmffoaaaGreat
