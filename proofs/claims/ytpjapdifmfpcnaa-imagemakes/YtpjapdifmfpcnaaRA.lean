/-
  The document's answer for images: the walks of Size, side, none, values, there, within, Count, power. What the dump lacks is left out.
-/
import Derived.Test.YtpjapdifmfpcnaaIX
import Derived.Test.YtpjapdifmfpcnaaIB
namespace Go.Proofs.Ytpjapdifmfpcnaa
open Go.RowKit
set_option linter.unusedVariables false
set_option linter.unusedSimpArgs false

set_option maxHeartbeats 1000000 in
theorem refSize_any (f : Int) (w : World) :
    Calls Try.prog 29 #[.int .i64 f] w fun e w' => e = .returned (.int .i64 (sizI f)) ∧ w' = w := by
  by_cases hf : 1 ≤ f ∧ f ≤ 7
  · rcases (by omega : f = 1 ∨ f = 2 ∨ f = 3 ∨ f = 4 ∨ f = 5 ∨ f = 6 ∨ f = 7) with rfl | rfl | rfl | rfl | rfl | rfl | rfl
    all_goals
      go_enter Try.func29, Try.ntmps29
      go_wp2
      go_ret
      exact ⟨rfl, rfl⟩
  · have E := hide (siz_off (f := f) (by omega))
    have d1 : (f == 1) = false := by simp; omega
    have d2 : (f == 2) = false := by simp; omega
    have d3 : (f == 3) = false := by simp; omega
    have d4 : (f == 4) = false := by simp; omega
    have d5 : (f == 5) = false := by simp; omega
    have d6 : (f == 6) = false := by simp; omega
    have d7 : (f == 7) = false := by simp; omega
    go_enter Try.func29, Try.ntmps29
    go_wp2
    go_ret
    rw [unhide E]
    exact ⟨rfl, rfl⟩

set_option maxHeartbeats 1000000 in
theorem refSide_any (n : Int) (w : World) :
    Calls Try.prog 53 #[.int .i64 n] w fun e w' => e = .returned (.bool (sideB n)) ∧ w' = w := by
  by_cases a1 : 1 ≤ n
  · by_cases a2 : n ≤ 64
    · have E := hide (show sideB n = true by simp [sideB, a1, a2])
      go_enter Try.func53, Try.ntmps53
      go_wp2
      go_ret
      rw [unhide E]
      exact ⟨by simp [a2], rfl⟩
    · have E := hide (show sideB n = false by simp [sideB, a2])
      go_enter Try.func53, Try.ntmps53
      go_wp2
      go_ret
      rw [unhide E]
      exact ⟨by simp [a2], rfl⟩
  · have E := hide (show sideB n = false by simp [sideB, a1])
    go_enter Try.func53, Try.ntmps53
    go_wp2
    go_ret
    rw [unhide E]
    exact ⟨by simp, rfl⟩

set_option maxHeartbeats 1000000 in
theorem refNone_any (W H : Int) (bo : Option Addr) (bn bcap : Nat) (w : World) :
    Calls Try.prog 52 #[.agg #[.int .i64 W, .int .i64 H, .slice bo bn bcap]] w fun e w' => e = .returned (.bool (decide (W = 0 ∧ H = 0 ∧ bn = 0))) ∧ Ext w w' := by
  have HX := hide ((Ext.refl w).alloc (.cells #[.int .i64 W, .int .i64 H, .slice bo bn bcap] 48))
  by_cases a1 : W = 0
  · have d1 : (W == 0) = true := by simp [a1]
    by_cases a2 : H = 0
    · have d2 : (H == 0) = true := by simp [a2]
      by_cases a3 : bn = 0
      · have d3 : ((bn : Int) == 0) = true := by simp [a3]
        have E := hide (decide_eq_true (p := W = 0 ∧ H = 0 ∧ bn = 0) ⟨a1, a2, a3⟩)
        clear a1 a2 a3
        go_enter Try.func52, Try.ntmps52
        go_wp2
        go_ret
        rw [unhide E]
        exact ⟨by simp, unhide HX⟩
      · have d3 : ((bn : Int) == 0) = false := by rw [beq_eq_false_iff_ne]; omega
        have E := hide (decide_eq_false (p := W = 0 ∧ H = 0 ∧ bn = 0) (fun h => a3 h.2.2))
        clear a1 a2 a3
        go_enter Try.func52, Try.ntmps52
        go_wp2
        go_ret
        rw [unhide E]
        exact ⟨by simp, unhide HX⟩
    · have d2 : (H == 0) = false := by simp [a2]
      have E := hide (decide_eq_false (p := W = 0 ∧ H = 0 ∧ bn = 0) (fun h => a2 h.2.1))
      clear a1 a2
      go_enter Try.func52, Try.ntmps52
      go_wp2
      go_ret
      rw [unhide E]
      exact ⟨by simp, unhide HX⟩
  · have d1 : (W == 0) = false := by simp [a1]
    have E := hide (decide_eq_false (p := W = 0 ∧ H = 0 ∧ bn = 0) (fun h => a1 h.1))
    clear a1
    go_enter Try.func52, Try.ntmps52
    go_wp2
    go_ret
    rw [unhide E]
    exact ⟨by simp, unhide HX⟩

set_option maxHeartbeats 1000000 in
theorem refValues_any (k n : Int) (w : World) :
    Calls Try.prog 54 #[.int .i64 k, .int .i64 n] w fun e w' => e = .returned (.bool (valB k n)) ∧ w' = w := by
  by_cases k1 : k = 1 ∨ k = 2
  · by_cases a1 : 1 ≤ n
    · by_cases a2 : n ≤ 3
      · have E := hide (show valB k n = true by simp [valB, k1, a1, a2])
        rcases k1 with rfl | rfl
        all_goals
          go_enter Try.func54, Try.ntmps54
          go_wp2
          go_ret
          rw [unhide E]
          exact ⟨by simp [a2], rfl⟩
      · have E := hide (show valB k n = false by simp [valB, k1, a2])
        rcases k1 with rfl | rfl
        all_goals
          go_enter Try.func54, Try.ntmps54
          go_wp2
          go_ret
          rw [unhide E]
          exact ⟨by simp [a2], rfl⟩
    · have E := hide (show valB k n = false by simp [valB, k1, a1])
      rcases k1 with rfl | rfl
      all_goals
        go_enter Try.func54, Try.ntmps54
        go_wp2
        go_ret
        rw [unhide E]
        exact ⟨by simp, rfl⟩
  · have n1 : (k == 1) = false := by simp; omega
    have n2 : (k == 2) = false := by simp; omega
    by_cases k3 : k = 3
    · subst k3
      by_cases a1 : 1 ≤ n
      · by_cases a2 : n ≤ 4
        · have E := hide (show valB 3 n = true by simp [valB, a1, a2])
          go_enter Try.func54, Try.ntmps54
          go_wp2
          go_ret
          rw [unhide E]
          exact ⟨by simp [a2], rfl⟩
        · have E := hide (show valB 3 n = false by simp [valB, a2])
          go_enter Try.func54, Try.ntmps54
          go_wp2
          go_ret
          rw [unhide E]
          exact ⟨by simp [a2], rfl⟩
      · have E := hide (show valB 3 n = false by simp [valB, a1])
        go_enter Try.func54, Try.ntmps54
        go_wp2
        go_ret
        rw [unhide E]
        exact ⟨by simp, rfl⟩
    · have n3 : (k == 3) = false := by simp; omega
      by_cases k4 : k = 4
      · subst k4
        by_cases a1 : n = 1
        · subst a1
          go_enter Try.func54, Try.ntmps54
          go_wp2
          go_ret
          exact ⟨rfl, rfl⟩
        · have b1 : (n == 1) = false := by simp; omega
          have E := hide (show valB 4 n = (n == 2) by simp [valB, a1]; rfl)
          clear a1
          go_enter Try.func54, Try.ntmps54
          go_wp2
          go_ret
          rw [unhide E]
          exact ⟨by simp, rfl⟩
      · have n4 : (k == 4) = false := by simp; omega
        have E := hide (show valB k n = false by unfold valB; rw [if_neg k1, if_neg k3, if_neg k4])
        clear k1 k3 k4
        go_enter Try.func54, Try.ntmps54
        go_wp2
        go_ret
        rw [unhide E]
        exact ⟨rfl, rfl⟩

theorem pow_even {n : Int} (h1 : 1 < n) (h2 : n ≤ 64) (h3 : n % 2 = 0) : powB n = powB (n / 2) := by
  rw [Bool.eq_iff_iff, powB_iff, powB_iff]
  omega
theorem pow_odd {n : Int} (h0 : 1 ≤ n) (h2 : n ≤ 64) (h3 : ¬ (1 < n ∧ n % 2 = 0)) : powB n = (n == 1) := by
  rw [Bool.eq_iff_iff, powB_iff, beq_iff_eq]
  omega
set_option maxHeartbeats 1000000 in
theorem refPower_any (n : Int) (w : World) (h1 : 1 ≤ n) (h2 : n ≤ 64) :
    Calls Try.prog 37 #[.int .i64 n] w fun e w' => e = .returned (.bool (powB n)) ∧ w' = w := by
  go_enter Try.func37, Try.ntmps37
  go_wp2
  go_loopw [0] (fun a wr => ∃ x : Int, 1 ≤ x ∧ x ≤ 64 ∧ a = .int .i64 x ∧ powB x = powB n ∧ wr = w) (fun a _ => (intOf a).toNat)
  case atStart => exact ⟨n, h1, h2, rfl, rfl, rfl⟩
  case round =>
    obtain ⟨x, x1, x2, rfl, hp, rfl⟩ := hrel
    have HP := hide hp
    clear hp
    by_cases a1 : 1 < x
    · by_cases a2 : x % 2 = 0
      · have d2 : (x % 2 == 0) = true := by simp [a2]
        have HE := hide (pow_even a1 x2 a2)
        have HD := hide (show 1 ≤ x / 2 ∧ x / 2 ≤ 64 ∧ (x / 2).toNat < x.toNat by omega)
        clear a2
        go_wp2
        go_roundw
        case rel => exact ⟨x / 2, (unhide HD).1, (unhide HD).2.1, rfl, by rw [← unhide HE]; exact unhide HP, by first | rfl | trivial⟩
        case measure => have := (unhide HD).2.2; simpa [intOf] using this
      · have d2 : (x % 2 == 0) = false := by simp [a2]
        have HE := hide (pow_odd x1 x2 (fun h => a2 h.2))
        clear a2
        go_wp2
        go_ret
        rw [← unhide HP, unhide HE]
        exact ⟨rfl, rfl⟩
    · have HE := hide (pow_odd x1 x2 (fun h => a1 h.1))
      go_wp2
      go_ret
      rw [← unhide HP, unhide HE]
      exact ⟨rfl, rfl⟩

/-- Is level i there, by the document? -/
def thB (L : List Lev) (i : Int) : Bool := decide (0 ≤ i ∧ i < L.length) && !noneB (L.getD i.toNat noLev)

section
variable {w : World} {v : Value} {L : List Ent} {I : Img}
set_option maxHeartbeats 1000000 in
theorem refThere_any (h : LR w v L) (i : Int) :
    Calls Try.prog 32 #[.agg #[.int .i64 I.f, v, .int .i64 I.ws, .int .i64 I.wt, .int .i64 I.mn, .int .i64 I.mg], .int .i64 i] w fun e w' => e = .returned (.bool (thB (absL L) i)) ∧ Ext w w' := by
  obtain ⟨ao, cap, rfl, hao, hlc, hcm, _⟩ := h.shape
  have hcm2 : cap ≤ 9223372036854775807 := by unfold maxLen at hcm; omega
  have HX := hide ((Ext.refl w).alloc (.cells #[.int .i64 I.f, .slice ao L.length cap, .int .i64 I.ws, .int .i64 I.wt, .int .i64 I.mn, .int .i64 I.mg] 24))
  by_cases a1 : 0 ≤ i
  · obtain ⟨k, rfl⟩ := Int.eq_ofNat_of_zero_le a1
    by_cases a2 : k < L.length
    · obtain ⟨b, off, bo, bcap, rfl, eb, c0, c1, c2, hr⟩ := (h.ext (unhide HX)).at k a2
      have E := hide (show thB (absL L) (k : Int) = !decide (L[k].1 = 0 ∧ L[k].2.1 = 0 ∧ L[k].2.2.2.length = 0) by
        unfold thB
        rw [absL_len, Int.toNat_natCast, absL_getD L k a2, decide_eq_true (by omega)]
        rfl)
      have a3 : (k : Int) < (L.length : Int) := by omega
      generalize L[k].1 = W at *
      generalize L[k].2.1 = H at *
      generalize L[k].2.2.2.length = bn at *
      clear h hr eb hao a2 hcm
      go_enter Try.func32, Try.ntmps32
      go_wp2_with fail
      refine (refNone_any W H bo bn bcap _).mono ?_
      rintro e w2 ⟨rfl, hx2⟩
      have HX2 := hide ((unhide HX).trans hx2)
      clear hx2
      go_wp2
      go_ret
      rw [unhide E]
      exact ⟨by simp, unhide HX2⟩
    · have E := hide (show thB (absL L) (k : Int) = false by
        unfold thB
        rw [absL_len, decide_eq_false (by omega)]
        rfl)
      have a3 : ¬ (k : Int) < (L.length : Int) := by omega
      clear h hao a2 hcm
      go_enter Try.func32, Try.ntmps32
      go_wp2
      go_ret
      rw [unhide E]
      exact ⟨by simp, unhide HX⟩
  · have E := hide (show thB (absL L) i = false by
      unfold thB
      rw [decide_eq_false (by omega)]
      rfl)
    clear h hao hcm
    go_enter Try.func32, Try.ntmps32
    go_wp2
    go_ret
    rw [unhide E]
    exact ⟨by simp, unhide HX⟩
end

end Go.Proofs.Ytpjapdifmfpcnaa
