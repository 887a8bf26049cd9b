/-
  The walks of maths' roots, and of the document's. What the dump lacks is left out.
-/
import Derived.Test.YtlggecbbliihiabMA
import Derived.Test.YtlggecbbliihiabFxC
namespace Go.Proofs.Ytlggecbbliihiab
open Go.RowKit
set_option linter.unusedVariables false
set_option linter.unusedSimpArgs false

theorem sq_add (r p : Int) : (r + p + p) * (r + p + p) = (r + 2 * p) * (r + 2 * p) := by rw [show r + p + p = r + 2 * p by omega]

set_option maxHeartbeats 1000000 in
theorem root_any (n : Int) (w : World) (h0 : 0 ≤ n) (h1 : n ≤ 18446744073709551615) :
    Calls Try.prog 13 #[.int .u64 n] w fun e w' => e = .returned (.int .u32 (rootI n)) ∧ w' = w := by
  go_enter Try.func13, Try.ntmps13
  go_wp2
  go_step3
  go_wp2
  go_step3
  go_wp2
  go_loopw [3, 4] (fun s d wr => ∃ (r : Int) (k : Nat), s = .int .u64 r ∧ d = .int .u64 ((2 : Int) ^ k / 2) ∧ 0 ≤ r ∧ r + (2 : Int) ^ k ≤ 4294967296 ∧ r * r ≤ n ∧ n < (r + (2 : Int) ^ k) * (r + (2 : Int) ^ k) ∧ wr = w) (fun _ d _ => (intOf d).toNat)
  case atStart => exact ⟨0, 32, rfl, rfl, by omega, by decide, by omega, by simp; omega, rfl⟩
  case round =>
    obtain ⟨r, k, rfl, rfl, hr0, hr1, hr2, hr3, rfl⟩ := hrel
    cases k with
    | zero =>
      have hR : IsRoot n r := ⟨hr0, hr2, by simpa using hr3⟩
      have HE := hide (rootI_eq hR)
      have hrn : r ≤ 4294967295 := by simp at hr1; omega
      clear hR hr3 hr2 hr1
      go_wp2
      try rw [Exit.noGoto_ret]
      go_ret
      exact ⟨by rw [unhide HE]; rfl, rfl⟩
    | succ k =>
      have hp : (2 : Int) ^ (k + 1) = 2 * (2 : Int) ^ k := by rw [Int.pow_succ]; omega
      have hP : 0 < (2 : Int) ^ k := Int.pow_pos (by decide)
      rw [hp] at hr1 hr3 ⊢
      have hd : 2 * (2 : Int) ^ k / 2 = (2 : Int) ^ k := by omega
      rw [hd]
      have hq := hide (show ∀ x, x = (2 : Int) ^ k → x / 2 = (2 : Int) ^ k / 2 from fun x h => by rw [h])
      generalize hPe : (2 : Int) ^ k = P at *
      have HPe := hide hPe
      clear hPe hp hd
      have hs0 : 0 ≤ (r + P) * (r + P) := Int.mul_nonneg (by omega) (by omega)
      have hs1 : (r + P) * (r + P) < 18446744073709551616 := sq_lt (b := 4294967296) (by omega) (by omega)
      have H3 := hide hr3
      have H2 := hide hr2
      clear hr3 hr2
      have hPd : decide (0 < P) = true := by simp; omega
      have hpd : decide (P > 0) = true := by simp; omega
      by_cases c1 : (r + P) * (r + P) < n
      · have d1 : decide ((r + P) * (r + P) < n) = true := by simp; omega
        go_wp2
        go_roundw
        case rel =>
          refine ⟨r + P, k, rfl, by rw [unhide HPe], by omega, by rw [unhide HPe]; omega, by omega, ?_, trivial⟩
          rw [unhide HPe, sq_add]
          exact unhide H3
        case measure => simp [intOf]; omega
      · have d1 : decide ((r + P) * (r + P) < n) = false := by simp; omega
        by_cases c2 : (r + P) * (r + P) = n
        · have d2 : ((r + P) * (r + P) == n) = true := by simp; omega
          have hR : IsRoot n (r + P) := ⟨by omega, by omega, by have := sq_lt (a := r + P) (b := r + P + 1) (by omega) (by omega); omega⟩
          have HE := hide (rootI_eq hR)
          clear hR c2
          go_wp2
          try rw [Exit.noGoto_ret]
          go_ret
          exact ⟨by rw [unhide HE]; rfl, rfl⟩
        · have d2 : ((r + P) * (r + P) == n) = false := by simp; omega
          go_wp2
          go_roundw
          case rel => exact ⟨r, k, rfl, by rw [unhide HPe], by omega, by rw [unhide HPe]; omega, unhide H2, by rw [unhide HPe]; omega, trivial⟩
          case measure => simp [intOf]; omega

/-- The raw of the square root. -/
def sqrtI (x : Int) : Int := if x ≤ 0 then 0 else rawI (rootI (x * 65536))
/-- The raw of one over the square root. -/
def invI (x : Int) : Int := if x ≤ 0 then 2147483647 else rawI (rootI (281474976710656 / x))

theorem ofRoot_any (n : Int) (w : World) (h0 : 0 ≤ n) (h1 : n ≤ 18446744073709551615) :
    Calls Try.prog 28 #[.int .u64 n] w fun e w' => e = .returned (.int .i32 (rawI (rootI n))) ∧ w' = w := by
  have hb := rootI_u32 h0 h1
  go_enter Try.func28, Try.ntmps28
  go_wp2_with fail
  refine (root_any n _ h0 h1).mono ?_
  rintro e w1 ⟨rfl, rfl⟩
  generalize hr : rootI n = r at *
  have HR := hide hr
  clear hr
  go_wp2_with fail
  refine (raw_any _ _).mono ?_
  rintro e w1 ⟨rfl, rfl⟩
  go_wp2
  go_ret
  exact ⟨by rw [unhide HR]; rfl, rfl⟩

theorem sqrt_any (x : Int) (w : World) (h : I32 x) :
    Calls Try.prog 14 #[.int .i32 x] w fun e w' => e = .returned (.int .i32 (sqrtI x)) ∧ w' = w := by
  unfold I32 at h
  go_enter Try.func14, Try.ntmps14
  by_cases h0 : x ≤ 0
  · have hE := hide (show sqrtI x = 0 by simp [sqrtI, h0])
    go_wp2
    go_ret
    exact ⟨by rw [unhide hE]; rfl, rfl⟩
  · have hE := hide (show sqrtI x = rawI (rootI (x * 65536)) by simp [sqrtI, h0])
    go_wp2_with fail
    refine (ofRoot_any _ _ (by omega) (by omega)).mono ?_
    rintro e w1 ⟨rfl, rfl⟩
    rw [← unhide hE]
    go_wp2
    go_ret
    exact ⟨rfl, rfl⟩

theorem quo_u {x : Int} (h : 0 < x) (h2 : x ≤ 2147483647) : 131072 ≤ 281474976710656 / x ∧ 281474976710656 / x ≤ 281474976710656 := by
  constructor
  · exact (Int.le_ediv_iff_mul_le h).2 (by omega)
  · exact Int.ediv_le_self _ (by omega)

theorem root_small {x : Int} (h : 0 < x) (h2 : x ≤ 2147483647) : 0 ≤ rootI (x * 65536) ∧ rootI (x * 65536) ≤ 16777216 := by
  have h := rootI_spec (n := x * 65536) (by omega)
  have h2 := lt_of_sq (a := rootI (x * 65536)) (b := 16777216) (by omega) (by have := h.2.1; omega)
  exact ⟨h.1, by omega⟩

end Go.Proofs.Ytlggecbbliihiab
