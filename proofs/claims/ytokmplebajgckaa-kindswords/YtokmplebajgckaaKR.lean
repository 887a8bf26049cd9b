/-
  The document's types: which may be, their words, the small questions. What the dump lacks is left out.
-/
import Derived.Test.YtokmplebajgckaaKC
import Derived.Deep.DeepCutAuto
namespace Go.Proofs.Ytokmplebajgckaa
open Go.RowKit
set_option linter.unusedVariables false
set_option linter.unusedSimpArgs false

set_option maxHeartbeats 4000000 in
theorem refMay_any (t : Ty) (w : World) : Calls Try.prog 13 #[.agg #[.int .i64 (t).1, .int .i64 (t).2]] w fun e w' => e = .returned (.bool (mayP t)) ∧ Ext w w' := by
  have X := hide ((Ext.refl w).alloc (.cells #[.int .i64 (t).1, .int .i64 (t).2] 23))
  obtain ⟨R, hR⟩ : ∃ R, mayP t = R := ⟨_, rfl⟩
  rw [hR]
  unfold mayP at hR
  by_cases h0 : t.1 = 0
  · have q0 : (t.1 == 0) = true := by simp [h0]
    have hv : R = (t.2 == 0) := by
      rw [← hR, h0]
      simp
    subst hv
    clear hR h0
    go_enter Try.func13, Try.ntmps13
    go_wp2
    go_ret
    exact ⟨rfl, unhide X⟩
  · have q0 : (t.1 == 0) = false := by simp [h0]
    by_cases h4 : t.1 = 4
    · have q4 : (t.1 == 4) = true := by simp [h4]
      have hv : R = (t.2 == 1) := by
        rw [← hR, h4]
        simp
      subst hv
      clear hR h0 h4
      go_enter Try.func13, Try.ntmps13
      go_wp2
      go_ret
      exact ⟨rfl, unhide X⟩
    · have q4 : (t.1 == 4) = false := by simp [h4]
      rw [q0, q4, Bool.false_and, Bool.false_and, Bool.false_or, Bool.false_or] at hR
      by_cases g1 : 0 < t.1
      · by_cases g2 : t.1 < 4
        · by_cases g3 : 1 ≤ t.2
          · have hv : R = decide (t.2 ≤ 4) := by
              rw [← hR]
              simp [show (1 : Int) ≤ t.1 by omega, show t.1 ≤ 3 by omega, g3]
            subst hv
            clear hR h0 h4
            go_enter Try.func13, Try.ntmps13
            go_wp2
            go_ret
            exact ⟨rfl, unhide X⟩
          · have hv : R = false := by
              rw [← hR]
              simp [g3]
            subst hv
            clear hR h0 h4
            go_enter Try.func13, Try.ntmps13
            go_wp2
            go_ret
            exact ⟨rfl, unhide X⟩
        · have hv : R = false := by
            rw [← hR]
            simp [show ¬ t.1 ≤ 3 by omega]
          subst hv
          clear hR h0 h4
          go_enter Try.func13, Try.ntmps13
          go_wp2
          go_ret
          exact ⟨rfl, unhide X⟩
      · have hv : R = false := by
          rw [← hR]
          simp [show ¬ (1 : Int) ≤ t.1 by omega]
        subst hv
        clear hR h0 h4
        go_enter Try.func13, Try.ntmps13
        go_wp2
        go_ret
        exact ⟨rfl, unhide X⟩

theorem refNumber_any (t : Ty) (w : World) : Calls Try.prog 34 #[.agg #[.int .i64 (t).1, .int .i64 (t).2]] w fun e w' => e = .returned (.bool (numP t)) ∧ Ext w w' := by
  unfold numP
  have X := hide ((Ext.refl w).alloc (.cells #[.int .i64 (t).1, .int .i64 (t).2] 23))
  cases q : (t.1 == 1) with
  | true =>
    go_enter Try.func34, Try.ntmps34
    go_wp2
    go_ret
    exact ⟨rfl, unhide X⟩
  | false =>
    go_enter Try.func34, Try.ntmps34
    go_wp2
    go_ret
    exact ⟨rfl, unhide X⟩

theorem refValue_any (t : Ty) (w : World) : Calls Try.prog 35 #[.agg #[.int .i64 (t).1, .int .i64 (t).2]] w fun e w' => e = .returned (.bool (valuP t)) ∧ Ext w w' := by
  have X := hide ((Ext.refl w).alloc (.cells #[.int .i64 (t).1, .int .i64 (t).2] 23))
  obtain ⟨R, hR⟩ : ∃ R, valuP t = R := ⟨_, rfl⟩
  rw [hR]
  unfold valuP numP at hR
  by_cases g1 : 1 ≤ t.1
  · have hv : R = decide (t.1 ≤ 3) := by
      rw [← hR, Bool.eq_iff_iff]
      simp
      omega
    subst hv
    clear hR
    go_enter Try.func35, Try.ntmps35
    go_wp2
    go_ret
    exact ⟨rfl, unhide X⟩
  · have hv : R = false := by
      rw [← hR, Bool.eq_false_iff]
      simp
      omega
    subst hv
    clear hR
    go_enter Try.func35, Try.ntmps35
    go_wp2
    go_ret
    exact ⟨rfl, unhide X⟩

theorem refTruth_any (w : World) : Calls Try.prog 36 #[] w fun e w' => e = .returned (.agg #[.int .i64 (truT).1, .int .i64 (truT).2]) ∧ Ext w w' := by
  have X := hide ((Ext.refl w).alloc (.cells #[.int .i64 3, .int .i64 1] 23))
  have B := hide (Blk.new w #[.int .i64 3, .int .i64 1] 23)
  go_enter Try.func36, Try.ntmps36
  go_wp2
  obtain ⟨s0, s1⟩ := (unhide B).two
  exact bodyPost_ret (v := .agg #[.int .i64 (truT).1, .int .i64 (truT).2]) (by simp [results, Try.results36, go_sem, s0, s1, truT]) rfl ⟨rfl, unhide X⟩

end Go.Proofs.Ytokmplebajgckaa
