/-
  The walks of maths' sines. What the dump lacks is left out.
-/
import Derived.Test.YtlggecbbliihiabMC
import Derived.Laws.EntriesVeiled
namespace Go.Proofs.Ytlggecbbliihiab
open Go.RowKit
set_option linter.unusedVariables false
set_option linter.unusedSimpArgs false

theorem indexC (k : Nat) (hk : k < 4) (w : World) : (Instr.index 57 (.agg #[.int .i64 5026995, .int .i64 85569306, .int .i64 693598668, .int .i64 1686629713]) (.int .i64 k)).run Try.prog w = .ok (.int .i64 (cI k)) w := by
  rcases (by omega : k = 0 ∨ k = 1 ∨ k = 2 ∨ k = 3) with rfl | rfl | rfl | rfl <;> kernel_rfl

set_option maxHeartbeats 1000000 in
theorem first_any (r : Int) (w : World) (h0 : 0 ≤ r) (h1 : r ≤ 1073741824) :
    Calls Try.prog 34 #[.int .i64 r] w fun e w' => e = .returned (.int .i32 (fsI r)) ∧ w' = w := by
  have hb := rr_bounds h0 h1
  have hs0 : 0 ≤ r * r / 1073741824 := by omega
  have hs1 : r * r / 1073741824 ≤ 1073741824 := by omega
  have HF : Hid (fsI r = min ((yI (r * r / 1073741824) 4 * r / 1073741824 + 8192) / 16384) 65536) := rfl
  have hf := fsI_bounds h0 h1
  go_enter Try.func34, Try.ntmps34
  go_wp2
  generalize hs : r * r / 1073741824 = s at *
  clear hs
  go_loopw [4, 13] (fun y i wr => ∃ k : Nat, k ≤ 4 ∧ y = .int .i64 (yI s k) ∧ i = .int .i64 k ∧ wr = w) (fun _ i _ => 4 - (intOf i).toNat)
  case atStart => exact ⟨0, by omega, rfl, rfl, rfl⟩
  case round =>
    obtain ⟨k, hk, rfl, rfl, rfl⟩ := hrel
    by_cases hlt : k < 4
    · have hk4 : (k : Int) < 4 := by omega
      have hix := indexC k hlt
      have hm := y_mul (s := s) hs0 hs1 (k := k) (by omega) hs0 hs1
      have hy := yI_bounds (s := s) hs0 hs1 (k + 1) (by omega)
      have hc := ct_top (k + 1) (by omega)
      have E : Hid (yI s (k + 1) = cI k - yI s k * s / 1073741824) := rfl
      rw [unhide E] at hy
      rw [show ctI (k + 1) = cI k from rfl] at hy hc
      generalize yI s k = y at *
      generalize cI k = c at *
      go_wp2
      go_roundw
      case rel => exact ⟨k + 1, by omega, by rw [unhide E], by go_num, trivial⟩
      case measure => simp [intOf]; omega
    · obtain rfl : k = 4 := by omega
      have hm := y_mul (s := s) hs0 hs1 (k := 4) (by omega) h0 h1
      generalize yI s 4 = y at *
      go_wp2
      all_goals go_ret
      all_goals refine ⟨?_, rfl⟩
      all_goals rw [unhide HF]
      all_goals simp
      all_goals omega

theorem phase_any (x : Int) (w : World) (h : I32 x) :
    Calls Try.prog 23 #[.int .i32 x] w fun e w' => e = .returned (.int .u32 (phaseI x)) ∧ w' = w := by
  unfold I32 at h
  go_enter Try.func23, Try.ntmps23
  go_wp2
  go_ret
  exact ⟨rfl, rfl⟩

set_option maxHeartbeats 1000000 in
theorem sine_any (p : Int) (w : World) (h0 : 0 ≤ p) (h1 : p < 4294967296) :
    Calls Try.prog 22 #[.int .u32 p] w fun e w' => e = .returned (.int .i32 (sineI p)) ∧ w' = w := by
  have hS : Hid (sineI p = if 2 ≤ p / 1073741824 then -fsI (foldI p) else fsI (foldI p)) := rfl
  have hf := fsI_bounds (foldI_bounds p).1 (foldI_bounds p).2
  go_enter Try.func22, Try.ntmps22
  by_cases c : p / 1073741824 % 2 = 1
  · have d : (p / 1073741824 % 2 == 1) = true := by simp; omega
    have E := hide (show 1073741824 - p % 1073741824 = foldI p by unfold foldI; rw [if_pos c])
    go_wp2_with fail
    refine (first_any _ _ (by omega) (by omega)).mono ?_
    rintro e w1 ⟨rfl, rfl⟩
    rw [unhide E]
    generalize fsI (foldI p) = z at *
    by_cases c2 : 2 ≤ p / 1073741824
    · have d2 : decide (2 ≤ p / 1073741824) = true := by simp; omega
      have S2 := hide ((unhide hS).trans (if_pos c2))
      go_wp2
      go_ret
      exact ⟨by rw [unhide S2]; rfl, rfl⟩
    · have d2 : decide (2 ≤ p / 1073741824) = false := by simp; omega
      have S2 := hide ((unhide hS).trans (if_neg c2))
      go_wp2
      go_ret
      exact ⟨by rw [unhide S2]; rfl, rfl⟩
  · have d : (p / 1073741824 % 2 == 1) = false := by simp; omega
    have E := hide (show p % 1073741824 = foldI p by unfold foldI; rw [if_neg c])
    go_wp2_with fail
    refine (first_any _ _ (by omega) (by omega)).mono ?_
    rintro e w1 ⟨rfl, rfl⟩
    rw [unhide E]
    generalize fsI (foldI p) = z at *
    by_cases c2 : 2 ≤ p / 1073741824
    · have d2 : decide (2 ≤ p / 1073741824) = true := by simp; omega
      have S2 := hide ((unhide hS).trans (if_pos c2))
      go_wp2
      go_ret
      exact ⟨by rw [unhide S2]; rfl, rfl⟩
    · have d2 : decide (2 ≤ p / 1073741824) = false := by simp; omega
      have S2 := hide ((unhide hS).trans (if_neg c2))
      go_wp2
      go_ret
      exact ⟨by rw [unhide S2]; rfl, rfl⟩

theorem sin_any (x : Int) (w : World) (h : I32 x) :
    Calls Try.prog 9 #[.int .i32 x] w fun e w' => e = .returned (.int .i32 (sinI x)) ∧ w' = w := by
  have hp := phaseI_bounds x
  go_enter Try.func9, Try.ntmps9
  go_wp2_with fail
  refine (phase_any _ _ h).mono ?_
  rintro e w1 ⟨rfl, rfl⟩
  go_wp2_with fail
  refine (sine_any _ _ hp.1 hp.2).mono ?_
  rintro e w1 ⟨rfl, rfl⟩
  go_wp2
  go_ret
  exact ⟨rfl, rfl⟩

theorem cos_any (x : Int) (w : World) (h : I32 x) :
    Calls Try.prog 10 #[.int .i32 x] w fun e w' => e = .returned (.int .i32 (cosI x)) ∧ w' = w := by
  have hp := phaseI_bounds x
  go_enter Try.func10, Try.ntmps10
  go_wp2_with fail
  refine (phase_any _ _ h).mono ?_
  rintro e w1 ⟨rfl, rfl⟩
  go_wp2_with fail
  refine (sine_any _ _ (by omega) (by omega)).mono ?_
  rintro e w1 ⟨rfl, rfl⟩
  go_wp2
  go_ret
  exact ⟨rfl, rfl⟩

end Go.Proofs.Ytlggecbbliihiab
