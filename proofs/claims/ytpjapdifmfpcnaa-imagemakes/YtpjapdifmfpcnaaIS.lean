/-
  Images: the walks of isSide, half, takes, within, lies, has, hasPowers, Count, firstWrong. What the dump lacks is left out.
-/
import Derived.Test.YtpjapdifmfpcnaaIM
import Derived.Deep.QuietTactic
import Derived.BigQuiet
namespace Go.Proofs.Ytpjapdifmfpcnaa
open Go.RowKit
set_option linter.unusedVariables false
set_option linter.unusedSimpArgs false

set_option maxHeartbeats 1000000 in
theorem isSide_any (n : Int) (w : World) :
    Calls Try.prog 58 #[.int .i64 n] w fun e w' => e = .returned (.bool (sideB n)) ∧ w' = w := by
  by_cases a1 : 1 ≤ n
  · by_cases a2 : n ≤ 64
    · have E := hide (show sideB n = true by simp [sideB, a1, a2])
      go_enter Try.func58, Try.ntmps58
      go_wp2
      go_ret
      rw [unhide E]
      exact ⟨by simp [a2], rfl⟩
    · have E := hide (show sideB n = false by simp [sideB, a2])
      go_enter Try.func58, Try.ntmps58
      go_wp2
      go_ret
      rw [unhide E]
      exact ⟨by simp [a2], rfl⟩
  · have E := hide (show sideB n = false by simp [sideB, a1])
    go_enter Try.func58, Try.ntmps58
    go_wp2
    go_ret
    rw [unhide E]
    exact ⟨by simp, rfl⟩

set_option maxHeartbeats 1000000 in
theorem half_any (n : Int) (w : World) (h0 : 0 ≤ n) (h1 : n ≤ 1000) :
    Calls Try.prog 59 #[.int .i64 n] w fun e w' => e = .returned (.int .i64 (half n)) ∧ w' = w := by
  rcases (by omega : 1 < n / 2 ∨ n / 2 < 1 ∨ n / 2 = 1) with h | h | h
  · have E := hide (show half n = n / 2 by unfold half; omega)
    go_enter Try.func59, Try.ntmps59
    go_wp2
    go_ret
    rw [unhide E]
    exact ⟨by simp, rfl⟩
  · have E := hide (show half n = 1 by unfold half; omega)
    go_enter Try.func59, Try.ntmps59
    go_wp2
    go_ret
    rw [unhide E]
    exact ⟨by simp, rfl⟩
  · have E := hide (show half n = 1 by unfold half; omega)
    go_enter Try.func59, Try.ntmps59
    go_wp2
    go_ret
    rw [unhide E]
    exact ⟨by simp, rfl⟩

set_option maxHeartbeats 1000000 in
theorem takes_any (k n : Int) (w : World) :
    Calls Try.prog 40 #[.int .i64 k, .int .i64 n] w fun e w' => e = .returned (.bool (valB k n)) ∧ w' = w := by
  by_cases k1 : k = 1 ∨ k = 2
  · by_cases a1 : 1 ≤ n
    · by_cases a2 : n ≤ 3
      · have E := hide (show valB k n = true by simp [valB, k1, a1, a2])
        rcases k1 with rfl | rfl
        all_goals
          go_enter Try.func40, Try.ntmps40
          go_wp2
          go_ret
          rw [unhide E]
          exact ⟨by simp [a2], rfl⟩
      · have E := hide (show valB k n = false by simp [valB, k1, a2])
        rcases k1 with rfl | rfl
        all_goals
          go_enter Try.func40, Try.ntmps40
          go_wp2
          go_ret
          rw [unhide E]
          exact ⟨by simp [a2], rfl⟩
    · have E := hide (show valB k n = false by simp [valB, k1, a1])
      rcases k1 with rfl | rfl
      all_goals
        go_enter Try.func40, Try.ntmps40
        go_wp2
        go_ret
        rw [unhide E]
        exact ⟨by simp, rfl⟩
  · have n1 : (k == 1) = false := by simp; omega
    have n2 : (k == 2) = false := by simp; omega
    by_cases k3 : k = 3
    · subst k3
      by_cases a1 : 1 ≤ n
      · by_cases a2 : n ≤ 4
        · have E := hide (show valB 3 n = true by simp [valB, a1, a2])
          go_enter Try.func40, Try.ntmps40
          go_wp2
          go_ret
          rw [unhide E]
          exact ⟨by simp [a2], rfl⟩
        · have E := hide (show valB 3 n = false by simp [valB, a2])
          go_enter Try.func40, Try.ntmps40
          go_wp2
          go_ret
          rw [unhide E]
          exact ⟨by simp [a2], rfl⟩
      · have E := hide (show valB 3 n = false by simp [valB, a1])
        go_enter Try.func40, Try.ntmps40
        go_wp2
        go_ret
        rw [unhide E]
        exact ⟨by simp, rfl⟩
    · have n3 : (k == 3) = false := by simp; omega
      by_cases k4 : k = 4
      · subst k4
        by_cases a1 : n = 1
        · subst a1
          go_enter Try.func40, Try.ntmps40
          go_wp2
          go_ret
          exact ⟨rfl, rfl⟩
        · have b1 : (n == 1) = false := by simp; omega
          have E := hide (show valB 4 n = (n == 2) by simp [valB, a1]; rfl)
          clear a1
          go_enter Try.func40, Try.ntmps40
          go_wp2
          go_ret
          rw [unhide E]
          exact ⟨by simp, rfl⟩
      · have n4 : (k == 4) = false := by simp; omega
        have E := hide (show valB k n = false by unfold valB; rw [if_neg k1, if_neg k3, if_neg k4])
        clear k1 k3 k4
        go_enter Try.func40, Try.ntmps40
        go_wp2
        go_ret
        rw [unhide E]
        exact ⟨rfl, rfl⟩

/-- From p on n within m. -/
def inW (p n m : Int) : Bool := decide (0 ≤ p ∧ p ≤ m ∧ 0 ≤ n ∧ n ≤ m - p)
set_option maxHeartbeats 1000000 in
theorem within_any (p n m : Int) (h0 : 0 ≤ m) (h1 : m ≤ 1000) (w : World) :
    Calls Try.prog 60 #[.int .i64 p, .int .i64 n, .int .i64 m] w fun e w' => e = .returned (.bool (inW p n m)) ∧ w' = w := by
  by_cases a1 : 0 ≤ p
  · by_cases a2 : p ≤ m
    · by_cases a3 : 0 ≤ n
      · by_cases a4 : n ≤ m - p
        · have E := hide (show inW p n m = true by simp [inW, a1, a2, a3, a4])
          go_enter Try.func60, Try.ntmps60
          go_wp2
          go_ret
          rw [unhide E]
          exact ⟨by simp [a4], rfl⟩
        · have E := hide (show inW p n m = false by simp [inW, a4])
          go_enter Try.func60, Try.ntmps60
          go_wp2
          go_ret
          rw [unhide E]
          exact ⟨by simp [a4], rfl⟩
      · have E := hide (show inW p n m = false by simp [inW, a3])
        go_enter Try.func60, Try.ntmps60
        go_wp2
        go_ret
        rw [unhide E]
        exact ⟨by simp, rfl⟩
    · have E := hide (show inW p n m = false by simp [inW, a2])
      go_enter Try.func60, Try.ntmps60
      go_wp2
      go_ret
      rw [unhide E]
      exact ⟨by simp, rfl⟩
  · have E := hide (show inW p n m = false by simp [inW, a1])
    go_enter Try.func60, Try.ntmps60
    go_wp2
    go_ret
    rw [unhide E]
    exact ⟨by simp, rfl⟩

theorem inP_eq (W H X Y w h : Int) : inP W H X Y w h = (inW X w W && inW Y h H) := rfl
set_option maxHeartbeats 1000000 in
theorem lies_any (W H X Y pw ph : Int) (u : Value) (ao : Option Addr) (n cap : Nat) (hu : u = .slice ao n cap) (hW : 0 ≤ W ∧ W ≤ 1000) (hH : 0 ≤ H ∧ H ≤ 1000) (w : World) :
    Calls Try.prog 47 #[.agg #[.int .i64 W, .int .i64 H, u], .agg #[.int .i64 X, .int .i64 Y, .int .i64 pw, .int .i64 ph]] w fun e w' => e = .returned (.bool (inP W H X Y pw ph)) ∧ Ext w w' := by
  subst hu
  have HE := hide (inP_eq W H X Y pw ph)
  have HX := hide (((Ext.refl w).alloc (.cells #[.int .i64 W, .int .i64 H, .slice ao n cap] 48)).alloc (.cells #[.int .i64 X, .int .i64 Y, .int .i64 pw, .int .i64 ph] 26))
  go_enter Try.func47, Try.ntmps47
  go_wp2_with fail
  refine (within_any X pw W (by omega) (by omega) _).mono ?_
  rintro e w1 ⟨rfl, rfl⟩
  cases hb : inW X pw W with
  | false =>
    have E := hide (show inP W H X Y pw ph = false by rw [unhide HE, hb]; rfl)
    clear hb
    go_wp2
    go_ret
    rw [unhide E]
    exact ⟨by simp, unhide HX⟩
  | true =>
    have E := hide (show inP W H X Y pw ph = inW Y ph H by rw [unhide HE, hb]; rfl)
    clear hb
    go_wp2_with fail
    refine (within_any Y ph H (by omega) (by omega) _).mono ?_
    rintro e w1 ⟨rfl, rfl⟩
    go_wp2
    go_ret
    rw [unhide E]
    exact ⟨by simp, unhide HX⟩

section
variable {w : World} {v : Value} {L : List Ent} {I : Img}
set_option maxHeartbeats 1000000 in
theorem has_any (h : LR w v L) (i : Int) :
    Calls Try.prog 34 #[.agg #[.int .i64 I.f, v, .int .i64 I.ws, .int .i64 I.wt, .int .i64 I.mn, .int .i64 I.mg], .int .i64 i] w fun e w' => e = .returned (.bool (hasB (absL L) i)) ∧ Ext w w' := by
  obtain ⟨ao, cap, rfl, hao, hlc, hcm, _⟩ := h.shape
  have hcm2 : cap ≤ 9223372036854775807 := by unfold maxLen at hcm; omega
  have HX := hide ((Ext.refl w).alloc (.cells #[.int .i64 I.f, .slice ao L.length cap, .int .i64 I.ws, .int .i64 I.wt, .int .i64 I.mn, .int .i64 I.mg] 24))
  by_cases a1 : 0 ≤ i
  · obtain ⟨k, rfl⟩ := Int.eq_ofNat_of_zero_le a1
    by_cases a2 : k < L.length
    · obtain ⟨b, off, bo, bcap, rfl, eb, c0, c1, c2, hr⟩ := (h.ext (unhide HX)).at k a2
      have E := hide (show hasB (absL L) (k : Int) = decide (0 < L[k].1) by unfold hasB; rw [absL_len, Int.toNat_natCast, absL_getD L k a2]; simp [a2, absE]; rfl)
      have a3 : (k : Int) < (L.length : Int) := by omega
      generalize L[k].1 = W at c0 E
      clear h c1 c2 hr eb hao a2 hcm
      go_enter Try.func34, Try.ntmps34
      go_wp2
      go_ret
      rw [unhide E]
      exact ⟨by simp, unhide HX⟩
    · have E := hide (show hasB (absL L) (k : Int) = false by simp [hasB, absL_len]; omega)
      have a3 : ¬ (k : Int) < (L.length : Int) := by omega
      clear h hao a2 hcm
      go_enter Try.func34, Try.ntmps34
      go_wp2
      go_ret
      rw [unhide E]
      exact ⟨by simp, unhide HX⟩
  · have E := hide (show hasB (absL L) i = false by simp [hasB, a1])
    clear h hao hcm
    go_enter Try.func34, Try.ntmps34
    go_wp2
    go_ret
    rw [unhide E]
    exact ⟨by simp, unhide HX⟩
end

theorem pow_bits {n : Int} (h1 : 1 ≤ n) (h2 : n ≤ 64) : (bits .and .i64 n (n - 1) == 0) = powB n := by
  have key : ∀ k : Nat, k < 65 → 1 ≤ k → (bits .and .i64 ((k : Nat) : Int) ((k : Int) - 1) == 0) = powB (k : Int) := by decide
  obtain ⟨k, rfl⟩ := Int.eq_ofNat_of_zero_le (show 0 ≤ n by omega)
  exact key k (by omega) (by omega)
set_option maxHeartbeats 1000000 in
theorem hasPowers_any (W H : Int) (u : Value) (ao : Option Addr) (n cap : Nat) (hu : u = .slice ao n cap) (hW : 1 ≤ W ∧ W ≤ 64) (hH : 1 ≤ H ∧ H ≤ 64) (w : World) :
    Calls Try.prog 35 #[.agg #[.int .i64 W, .int .i64 H, u]] w fun e w' => e = .returned (.bool (powB W && powB H)) ∧ Ext w w' := by
  subst hu
  have HX := hide ((Ext.refl w).alloc (.cells #[.int .i64 W, .int .i64 H, .slice ao n cap] 48))
  have e1 := pow_bits hW.1 hW.2
  have e2 := pow_bits hH.1 hH.2
  have b1 := hW.1
  have b2 := hW.2
  have b3 := hH.1
  have b4 := hH.2
  clear hW hH
  cases hb : powB W with
  | false =>
    rw [hb] at e1
    clear hb
    generalize powB H = y at *
    go_enter Try.func35, Try.ntmps35
    go_wp2
    go_ret
    exact ⟨by simp, unhide HX⟩
  | true =>
    rw [hb] at e1
    clear hb
    generalize powB H = y at *
    go_enter Try.func35, Try.ntmps35
    go_wp2
    go_ret
    exact ⟨by simp, unhide HX⟩
end Go.Proofs.Ytpjapdifmfpcnaa
