/-
  Vertices out of bytes: the document's Width, ends, Number, Right. What the dump lacks is left out.
-/
import Derived.Test.YtmigakbccmkjoaaFEc
import Derived.Test.YtmigakbccmkjoaaFxC
namespace Go.Proofs.Ytmigakbccmkjoaa
open Go.RowKit
set_option linter.unusedVariables false
set_option linter.unusedSimpArgs false

theorem rwidth_any (k : Int) (w : World) :
    Calls Try.prog 20 #[.int .i64 k] w fun e w' => e = .returned (.int .i64 (widI k : Int)) ∧ w' = w := by
  by_cases h5 : knwB k = true
  · rcases knw_cases h5 with rfl | rfl | rfl | rfl | rfl
    all_goals
      go_enter Try.func20, Try.ntmps20
      go_wp2
      go_ret
      exact ⟨rfl, rfl⟩
  · have hn := knw_no (by simpa using h5)
    have d1 : (k == 1) = false := by simp; omega
    have d2 : (k == 2) = false := by simp; omega
    have d3 : (k == 3) = false := by simp; omega
    have d4 : (k == 4) = false := by simp; omega
    have d5 : (k == 5) = false := by simp; omega
    have e : widI k = 0 := by
      unfold widI
      repeat rw [if_neg (by omega)]
    rw [e]
    clear h5 hn e
    go_enter Try.func20, Try.ntmps20
    go_wp2
    go_ret
    exact ⟨rfl, rfl⟩
theorem rends_any (k : Int) (w : World) (hk : knwB k = true) :
    Calls Try.prog 27 #[.int .i64 k] w fun e w' => e = .returned (.tuple #[.int .i64 (lstI k), .int .i64 (mstI k)]) ∧ w' = w := by
  rcases knw_cases hk with rfl | rfl | rfl | rfl | rfl
  all_goals
    go_enter Try.func27, Try.ntmps27
    go_wp2
    refine bodyPost_ret (v := .tuple #[.int .i64 _, .int .i64 _]) (by simp [results, Try.results27, go_sem]; exact ⟨rfl, rfl⟩) rfl ⟨rfl, rfl⟩
theorem rends_no (k : Int) (w : World) (hk : knwB k = false) :
    Calls Try.prog 27 #[.int .i64 k] w fun e w' => e = .returned (.tuple #[.int .i64 (-2147483648), .int .i64 2147483647]) ∧ w' = w := by
  have hn := knw_no hk
  have d1 : (k == 1) = false := by simp; omega
  have d2 : (k == 2) = false := by simp; omega
  have d3 : (k == 3) = false := by simp; omega
  have d4 : (k == 4) = false := by simp; omega
  go_enter Try.func27, Try.ntmps27
  go_wp2
  refine bodyPost_ret (v := .tuple #[.int .i64 (-2147483648), .int .i64 2147483647]) (by simp [results, Try.results27, go_sem]) rfl ⟨rfl, rfl⟩

set_option maxHeartbeats 2000000 in
theorem rright_any (A : Arr) (w : World) :
    Calls Try.prog 14 #[.agg (arC A)] w fun e w' => e = .returned (.bool (arrB A)) ∧ Ext w w' := by
  have HC := hide (fun w => rwidth_any A.kind w)
  have HW := hide (show ((widI A.kind : Nat) : Int) = if knwB A.kind = true then ((widI A.kind : Nat) : Int) else 0 by
    by_cases h : knwB A.kind = true
    · rw [if_pos h]
    · rw [if_neg h]
      have hn := knw_no (by simpa using h)
      unfold widI
      repeat rw [if_neg (by omega)]
      rfl)
  have HP := hide (fun h => (wid_pos (k := A.kind) h).1)
  have H2 := hide (show arrB A = (knwB A.kind && decide (1 ≤ A.size ∧ A.size ≤ 4) && decide (0 ≤ A.stride ∧ A.stride ≤ 255) && decide (0 ≤ A.off ∧ A.off ≤ 262144)) from rfl)
  unfold arC
  obtain ⟨sz, kd, nz, sr, of⟩ := A
  simp only at *
  generalize arrB _ = er at *
  generalize knwB kd = kw at *
  generalize widI kd = wd at *
  by_cases h1 : 1 ≤ sz
  · by_cases h2 : sz ≤ 4
    · cases kw with
      | true =>
        have hp := unhide HP rfl
        have d3 : decide ((0 : Int) < (wd : Int)) = true := by simp; omega
        by_cases h4 : 0 ≤ sr
        · by_cases h5 : sr ≤ 255
          · by_cases h6 : 0 ≤ of
            · by_cases h7 : of ≤ 262144
              · obtain rfl : er = true := by rw [unhide H2]; simp; omega
                have d1 : decide (1 ≤ sz) = true := by simpa using h1
                have d2 : decide (sz ≤ 4) = true := by simpa using h2
                have d4 : decide (0 ≤ sr) = true := by simpa using h4
                have d5 : decide (sr ≤ 255) = true := by simpa using h5
                have d6 : decide (0 ≤ of) = true := by simpa using h6
                have d7 : decide (of ≤ 262144) = true := by simpa using h7
                clear HP HW
                go_enter Try.func14, Try.ntmps14
                go_wp2_with (go_at_call 20; refine (unhide HC _).mono ?_; rintro e w1 ⟨rfl, hw⟩; obtain rfl := hw.symm)
                go_ret
                exact ⟨rfl, (Ext.refl w).alloc _⟩
              · obtain rfl : er = false := by rw [unhide H2, decide_eq_false (p := 0 ≤ of ∧ of ≤ 262144) (by omega)]; simp
                have d1 : decide (1 ≤ sz) = true := by simpa using h1
                have d2 : decide (sz ≤ 4) = true := by simpa using h2
                have d4 : decide (0 ≤ sr) = true := by simpa using h4
                have d5 : decide (sr ≤ 255) = true := by simpa using h5
                have d6 : decide (0 ≤ of) = true := by simpa using h6
                have d7 : decide (of ≤ 262144) = false := by simpa using h7
                clear HP HW
                go_enter Try.func14, Try.ntmps14
                go_wp2_with (go_at_call 20; refine (unhide HC _).mono ?_; rintro e w1 ⟨rfl, hw⟩; obtain rfl := hw.symm)
                go_ret
                exact ⟨rfl, (Ext.refl w).alloc _⟩
            · obtain rfl : er = false := by rw [unhide H2, decide_eq_false (p := 0 ≤ of ∧ of ≤ 262144) (by omega)]; simp
              have d1 : decide (1 ≤ sz) = true := by simpa using h1
              have d2 : decide (sz ≤ 4) = true := by simpa using h2
              have d4 : decide (0 ≤ sr) = true := by simpa using h4
              have d5 : decide (sr ≤ 255) = true := by simpa using h5
              have d6 : decide (0 ≤ of) = false := by simpa using h6
              clear HP HW
              go_enter Try.func14, Try.ntmps14
              go_wp2_with (go_at_call 20; refine (unhide HC _).mono ?_; rintro e w1 ⟨rfl, hw⟩; obtain rfl := hw.symm)
              go_ret
              exact ⟨rfl, (Ext.refl w).alloc _⟩
          · obtain rfl : er = false := by rw [unhide H2, decide_eq_false (p := 0 ≤ sr ∧ sr ≤ 255) (by omega)]; simp
            have d1 : decide (1 ≤ sz) = true := by simpa using h1
            have d2 : decide (sz ≤ 4) = true := by simpa using h2
            have d4 : decide (0 ≤ sr) = true := by simpa using h4
            have d5 : decide (sr ≤ 255) = false := by simpa using h5
            clear HP HW
            go_enter Try.func14, Try.ntmps14
            go_wp2_with (go_at_call 20; refine (unhide HC _).mono ?_; rintro e w1 ⟨rfl, hw⟩; obtain rfl := hw.symm)
            go_ret
            exact ⟨rfl, (Ext.refl w).alloc _⟩
        · obtain rfl : er = false := by rw [unhide H2, decide_eq_false (p := 0 ≤ sr ∧ sr ≤ 255) (by omega)]; simp
          have d1 : decide (1 ≤ sz) = true := by simpa using h1
          have d2 : decide (sz ≤ 4) = true := by simpa using h2
          have d4 : decide (0 ≤ sr) = false := by simpa using h4
          clear HP HW
          go_enter Try.func14, Try.ntmps14
          go_wp2_with (go_at_call 20; refine (unhide HC _).mono ?_; rintro e w1 ⟨rfl, hw⟩; obtain rfl := hw.symm)
          go_ret
          exact ⟨rfl, (Ext.refl w).alloc _⟩
      | false =>
        obtain rfl : er = false := by rw [unhide H2]; simp
        have hp := unhide HW
        rw [if_neg (by decide)] at hp
        have d3 : decide ((0 : Int) < (wd : Int)) = false := by simp; omega
        have d1 : decide (1 ≤ sz) = true := by simpa using h1
        have d2 : decide (sz ≤ 4) = true := by simpa using h2
        clear HP HW
        go_enter Try.func14, Try.ntmps14
        go_wp2_with (go_at_call 20; refine (unhide HC _).mono ?_; rintro e w1 ⟨rfl, hw⟩; obtain rfl := hw.symm)
        go_ret
        exact ⟨rfl, (Ext.refl w).alloc _⟩
    · obtain rfl : er = false := by rw [unhide H2, decide_eq_false (p := 1 ≤ sz ∧ sz ≤ 4) (by omega)]; simp
      have d1 : decide (1 ≤ sz) = true := by simpa using h1
      have d2 : decide (sz ≤ 4) = false := by simpa using h2
      clear HP HW
      go_enter Try.func14, Try.ntmps14
      go_wp2_with (go_at_call 20; refine (unhide HC _).mono ?_; rintro e w1 ⟨rfl, hw⟩; obtain rfl := hw.symm)
      go_ret
      exact ⟨rfl, (Ext.refl w).alloc _⟩
  · obtain rfl : er = false := by rw [unhide H2, decide_eq_false (p := 1 ≤ sz ∧ sz ≤ 4) (by omega)]; simp
    have d1 : decide (1 ≤ sz) = false := by simpa using h1
    clear HP HW
    go_enter Try.func14, Try.ntmps14
    go_wp2_with (go_at_call 20; refine (unhide HC _).mono ?_; rintro e w1 ⟨rfl, hw⟩; obtain rfl := hw.symm)
    go_ret
    exact ⟨rfl, (Ext.refl w).alloc _⟩
end Go.Proofs.Ytmigakbccmkjoaa
