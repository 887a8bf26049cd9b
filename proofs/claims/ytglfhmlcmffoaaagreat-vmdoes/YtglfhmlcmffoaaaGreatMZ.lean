/-
  The walks of the document's sines. What the dump lacks is left out.
-/
import Derived.Test.YtglfhmlcmffoaaaGreatMYJ
import Derived.Test.YtglfhmlcmffoaaaGreatVEJ
import Derived.Test.YtglfhmlcmffoaaaGreatMX
namespace Go.Proofs.YtglfhmlcmffoaaaGreat
open Go.RowKit
set_option linter.unusedVariables false
set_option linter.unusedSimpArgs false

theorem tmod_up {n d : Int} (hd : 0 < d) : d * n.tdiv d + n.tmod d = n ∧ n.tmod d < d ∧ -d < n.tmod d ∧ (0 ≤ n → 0 ≤ n.tmod d) ∧ (n ≤ 0 → n.tmod d ≤ 0) :=
  ⟨Int.mul_tdiv_add_tmod n d, Int.tmod_lt_of_pos n hd, Int.lt_tmod_of_pos n hd, fun hn => Int.tmod_nonneg d hn, fun hn => by
    have := Int.tmod_nonneg d (a := -n) (by omega)
    rw [Int.neg_tmod] at this
    omega⟩
theorem emod_of_tmod {n d : Int} (hd : 0 < d) : n % d = if n.tmod d < 0 then n.tmod d + d else n.tmod d := by
  obtain ⟨h1, h2, h3, _, _⟩ := tmod_up (n := n) hd
  split
  · rename_i h
    have e : n = n.tmod d + d + d * (n.tdiv d - 1) := by rw [Int.mul_sub]; omega
    rw [e, Int.add_mul_emod_self_left]
    rw [← e]
    exact Int.emod_eq_of_lt (by omega) (by omega)
  · rename_i h
    have e : n = n.tmod d + d * n.tdiv d := by omega
    rw [e, Int.add_mul_emod_self_left]
    rw [← e]
    exact Int.emod_eq_of_lt (by omega) h2

theorem refPhase_any (x : Int) (w : World) (h : I32 x) :
    Calls Tryz.prog 128 #[.int .i32 x] w fun e w' => e = .returned (.int .i64 (phaseI x)) ∧ w' = w := by
  unfold I32 at h
  have hz : -22400000000000 ≤ x * 683565276 / 65536 ∧ x * 683565276 / 65536 ≤ 22400000000000 := by omega
  have HE : Hid (phaseI x = x * 683565276 / 65536 % 4294967296) := rfl
  go_enter Tryz.func128, Tryz.ntmps128
  go_wp2_with fail
  refine (refDown16_any _ _ (by omega)).mono ?_
  rintro e w1 ⟨rfl, rfl⟩
  generalize x * 683565276 / 65536 = z at *
  obtain ⟨m1, m2, m3, m4, m5⟩ := tmod_up (n := z) (d := 4294967296) (by omega)
  have HM := hide (emod_of_tmod (n := z) (d := 4294967296) (by omega))
  clear m1 m4 m5
  by_cases c : z.tmod 4294967296 < 0
  · have d : decide (z.tmod 4294967296 < 0) = true := by simp; omega
    have HT := hide ((unhide HE).trans ((unhide HM).trans (if_pos c)))
    go_wp2
    go_ret
    exact ⟨by rw [unhide HT]; rfl, rfl⟩
  · have d : decide (z.tmod 4294967296 < 0) = false := by simp; omega
    have HT := hide ((unhide HE).trans ((unhide HM).trans (if_neg c)))
    go_wp2
    go_ret
    exact ⟨by rw [unhide HT]; rfl, rfl⟩

set_option maxHeartbeats 1000000 in
theorem refSine_any (p : Int) (w : World) (h0 : 0 ≤ p) (h1 : p < 4294967296) :
    Calls Tryz.prog 127 #[.int .i64 p] w fun e w' => e = .returned (.int .i32 (sineI p)) ∧ w' = w := by
  have HS : Hid (sineI p = if 2 ≤ p / 1073741824 then -fsI (foldI p) else fsI (foldI p)) := rfl
  obtain ⟨hr0, hr1⟩ := foldI_bounds p
  have hf := fsI_bounds hr0 hr1
  have hb := rr_bounds hr0 hr1
  have hs0 : 0 ≤ foldI p * foldI p / 1073741824 := by omega
  have hs1 : foldI p * foldI p / 1073741824 ≤ 1073741824 := by omega
  have HF : Hid (fsI (foldI p) = min ((yI (foldI p * foldI p / 1073741824) 4 * foldI p / 1073741824 + 8192) / 16384) 65536) := rfl
  go_enter Tryz.func127, Tryz.ntmps127
  by_cases c : p / 1073741824 % 2 = 1
  · have d : (p / 1073741824 % 2 == 1) = true := by simp; omega
    have E : 1073741824 - p % 1073741824 = foldI p := by unfold foldI; rw [if_pos c]
    generalize foldI p = r at *
    subst E
    go_wp2_with fail
    refine (refDown30_any _ _ (by omega)).mono ?_
    rintro e w1 ⟨rfl, rfl⟩
    generalize (1073741824 - p % 1073741824) * (1073741824 - p % 1073741824) / 1073741824 = s at *
    go_wp2
    go_loopw [6, 24] (fun y i wr => ∃ k : Nat, k ≤ 4 ∧ y = .int .i64 (yI s k) ∧ i = .int .i64 k ∧ wr = w1) (fun _ i _ => 4 - (intOf i).toNat)
    case atStart => exact ⟨0, by omega, rfl, rfl, rfl⟩
    case round =>
      obtain ⟨k, hk, rfl, rfl, rfl⟩ := hrel
      by_cases hlt : k < 4
      · have hk4 : (k : Int) < 4 := by omega
        have hix := indexC k hlt
        have hm := y_mul (s := s) hs0 hs1 (k := k) (by omega) hs0 hs1
        have hy := yI_bounds (s := s) hs0 hs1 (k + 1) (by omega)
        have hc := ct_top (k + 1) (by omega)
        have E : Hid (yI s (k + 1) = cI k - yI s k * s / 1073741824) := rfl
        rw [unhide E] at hy
        rw [show ctI (k + 1) = cI k from rfl] at hy hc
        generalize yI s k = y at *
        generalize cI k = c at *
        go_wp2_with fail
        refine (refDown30_any _ _ (by omega)).mono ?_
        rintro e w2 ⟨rfl, rfl⟩
        go_wp2
        go_roundw
        case rel => exact ⟨k + 1, by omega, by rw [unhide E], by go_num, trivial⟩
        case measure => simp [intOf]; omega
      · obtain rfl : k = 4 := by omega
        have hm := y_mul (s := s) hs0 hs1 (k := 4) (by omega) hr0 hr1
        generalize yI s 4 = y at *
        go_wp2_with fail
        refine (refDown30_any _ _ (by omega)).mono ?_
        rintro e w2 ⟨rfl, rfl⟩
        go_wp2_with fail
        refine (refDown14_any _ _ (by omega)).mono ?_
        rintro e w2 ⟨rfl, rfl⟩
        rw [unhide HF] at hf
        by_cases c2 : 2 ≤ p / 1073741824
        · have d2 : decide (2 ≤ p / 1073741824) = true := by simp; omega
          have S2 := hide ((unhide HS).trans (if_pos c2))
          rw [unhide HF] at S2
          clear HF HS
          go_wp2
          all_goals go_ret
          all_goals refine ⟨?_, rfl⟩
          all_goals rw [unhide S2]
          all_goals simp
          all_goals omega
        · have d2 : decide (2 ≤ p / 1073741824) = false := by simp; omega
          have S2 := hide ((unhide HS).trans (if_neg c2))
          rw [unhide HF] at S2
          clear HF HS
          go_wp2
          all_goals go_ret
          all_goals refine ⟨?_, rfl⟩
          all_goals rw [unhide S2]
          all_goals simp
          all_goals omega
  · have d : (p / 1073741824 % 2 == 1) = false := by simp; omega
    have E : p % 1073741824 = foldI p := by unfold foldI; rw [if_neg c]
    generalize foldI p = r at *
    subst E
    go_wp2_with fail
    refine (refDown30_any _ _ (by omega)).mono ?_
    rintro e w1 ⟨rfl, rfl⟩
    generalize (p % 1073741824) * (p % 1073741824) / 1073741824 = s at *
    go_wp2
    go_loopw [6, 24] (fun y i wr => ∃ k : Nat, k ≤ 4 ∧ y = .int .i64 (yI s k) ∧ i = .int .i64 k ∧ wr = w1) (fun _ i _ => 4 - (intOf i).toNat)
    case atStart => exact ⟨0, by omega, rfl, rfl, rfl⟩
    case round =>
      obtain ⟨k, hk, rfl, rfl, rfl⟩ := hrel
      by_cases hlt : k < 4
      · have hk4 : (k : Int) < 4 := by omega
        have hix := indexC k hlt
        have hm := y_mul (s := s) hs0 hs1 (k := k) (by omega) hs0 hs1
        have hy := yI_bounds (s := s) hs0 hs1 (k + 1) (by omega)
        have hc := ct_top (k + 1) (by omega)
        have E : Hid (yI s (k + 1) = cI k - yI s k * s / 1073741824) := rfl
        rw [unhide E] at hy
        rw [show ctI (k + 1) = cI k from rfl] at hy hc
        generalize yI s k = y at *
        generalize cI k = c at *
        go_wp2_with fail
        refine (refDown30_any _ _ (by omega)).mono ?_
        rintro e w2 ⟨rfl, rfl⟩
        go_wp2
        go_roundw
        case rel => exact ⟨k + 1, by omega, by rw [unhide E], by go_num, trivial⟩
        case measure => simp [intOf]; omega
      · obtain rfl : k = 4 := by omega
        have hm := y_mul (s := s) hs0 hs1 (k := 4) (by omega) hr0 hr1
        generalize yI s 4 = y at *
        go_wp2_with fail
        refine (refDown30_any _ _ (by omega)).mono ?_
        rintro e w2 ⟨rfl, rfl⟩
        go_wp2_with fail
        refine (refDown14_any _ _ (by omega)).mono ?_
        rintro e w2 ⟨rfl, rfl⟩
        rw [unhide HF] at hf
        by_cases c2 : 2 ≤ p / 1073741824
        · have d2 : decide (2 ≤ p / 1073741824) = true := by simp; omega
          have S2 := hide ((unhide HS).trans (if_pos c2))
          rw [unhide HF] at S2
          clear HF HS
          go_wp2
          all_goals go_ret
          all_goals refine ⟨?_, rfl⟩
          all_goals rw [unhide S2]
          all_goals simp
          all_goals omega
        · have d2 : decide (2 ≤ p / 1073741824) = false := by simp; omega
          have S2 := hide ((unhide HS).trans (if_neg c2))
          rw [unhide HF] at S2
          clear HF HS
          go_wp2
          all_goals go_ret
          all_goals refine ⟨?_, rfl⟩
          all_goals rw [unhide S2]
          all_goals simp
          all_goals omega

theorem refSin_any (x : Int) (w : World) (h : I32 x) :
    Calls Tryz.prog 92 #[.int .i32 x] w fun e w' => e = .returned (.int .i32 (sinI x)) ∧ w' = w := by
  have hp := phaseI_bounds x
  go_enter Tryz.func92, Tryz.ntmps92
  go_wp2_with fail
  refine (refPhase_any _ _ h).mono ?_
  rintro e w1 ⟨rfl, rfl⟩
  go_wp2_with fail
  refine (refSine_any _ _ hp.1 hp.2).mono ?_
  rintro e w1 ⟨rfl, rfl⟩
  go_wp2
  go_ret
  exact ⟨rfl, rfl⟩

theorem refCos_any (x : Int) (w : World) (h : I32 x) :
    Calls Tryz.prog 93 #[.int .i32 x] w fun e w' => e = .returned (.int .i32 (cosI x)) ∧ w' = w := by
  have hp := phaseI_bounds x
  go_enter Tryz.func93, Tryz.ntmps93
  go_wp2_with fail
  refine (refPhase_any _ _ h).mono ?_
  rintro e w1 ⟨rfl, rfl⟩
  go_wp2_with fail
  refine (refSine_any _ _ (by omega) (by omega)).mono ?_
  rintro e w1 ⟨rfl, rfl⟩
  go_wp2
  go_ret
  exact ⟨rfl, rfl⟩

end Go.Proofs.YtglfhmlcmffoaaaGreat
