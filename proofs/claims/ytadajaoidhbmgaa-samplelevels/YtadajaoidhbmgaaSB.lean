/-
  Colours: the walks of modulo, Wrap, between and refusal.
-/
import Derived.Test.YtadajaoidhbmgaaSA
namespace Go.Proofs.Ytadajaoidhbmgaa
open Go.RowKit
set_option linter.unusedVariables false
set_option linter.unusedSimpArgs false

set_option maxHeartbeats 1000000 in
theorem modulo_any (i n : Int) (w : World) (h1 : 1 ≤ n) (h2 : n ≤ 128) :
    Calls Try.prog 32 #[.int .i64 i, .int .i64 n] w fun e w' => e = .returned (.int .i64 (i % n)) ∧ w' = w := by
  obtain ⟨b1, b2⟩ := tmod_bd (i := i) (n := n) (by omega)
  have E := hide (emod_tmod (i := i) (n := n) (by omega))
  have hn0 : (n == 0) = false := by rw [beq_eq_false_iff_ne]; omega
  have hn1 : ¬ n = 0 := by omega
  have hn2 : ¬ n = -1 := by omega
  by_cases hneg : i.tmod n < 0
  · rw [if_pos hneg] at E
    go_enter Try.func32, Try.ntmps32
    go_wp2
    go_ret
    rw [unhide E]
    exact ⟨rfl, rfl⟩
  · rw [if_neg hneg] at E
    go_enter Try.func32, Try.ntmps32
    go_wp2
    go_ret
    rw [unhide E]
    exact ⟨rfl, rfl⟩

set_option maxHeartbeats 1000000 in
theorem wrap_any (m i n : Int) (w : World) :
    Calls Try.prog 16 #[.int .i64 m, .int .i64 i, .int .i64 n] w fun e w' => e = .returned (.int .i64 (wrapI m i n)) ∧ w' = w := by
  by_cases h1 : n < 1
  · have E := hide (show wrapI m i n = 0 by unfold wrapI; rw [if_pos (.inl h1)])
    go_enter Try.func16, Try.ntmps16
    go_wp2
    go_ret
    rw [unhide E]
    exact ⟨rfl, rfl⟩
  by_cases h2 : 64 < n
  · have E := hide (show wrapI m i n = 0 by unfold wrapI; rw [if_pos (.inr h2)])
    go_enter Try.func16, Try.ntmps16
    go_wp2
    go_ret
    rw [unhide E]
    exact ⟨rfl, rfl⟩
  have E := hide (show wrapI m i n = if m = 1 then i % n else if m = 2 then max 0 (min i (n - 1)) else if m = 3 then min (i % (2 * n)) (2 * n - 1 - i % (2 * n)) else 0 by unfold wrapI; rw [if_neg (by omega)])
  by_cases m1 : m = 1
  · rw [if_pos m1] at E
    have d1 : (m == 1) = true := by rw [beq_iff_eq]; exact m1
    clear m1
    go_enter Try.func16, Try.ntmps16
    go_wp2_with fail
    refine (modulo_any i n _ (by omega) (by omega)).mono ?_
    rintro e w1 ⟨rfl, rfl⟩
    go_wp2
    go_ret
    rw [unhide E]
    exact ⟨rfl, rfl⟩
  have d1 : (m == 1) = false := by rw [beq_eq_false_iff_ne]; exact m1
  rw [if_neg m1] at E
  clear m1
  by_cases m2 : m = 2
  · rw [if_pos m2] at E
    have d2 : (m == 2) = true := by rw [beq_iff_eq]; exact m2
    clear m2
    by_cases c1 : i ≤ n - 1
    · by_cases c0 : 0 ≤ i
      · replace E := hide (show wrapI m i n = i by rw [unhide E]; omega)
        go_enter Try.func16, Try.ntmps16
        go_wp2
        all_goals go_ret
        all_goals rw [unhide E]
        all_goals exact ⟨by first | rfl | (exact congrArg (fun z => Ending.returned (Value.int .i64 z)) (by omega)), rfl⟩
      · replace E := hide (show wrapI m i n = 0 by rw [unhide E]; omega)
        go_enter Try.func16, Try.ntmps16
        go_wp2
        all_goals go_ret
        all_goals rw [unhide E]
        all_goals exact ⟨by first | rfl | (exact congrArg (fun z => Ending.returned (Value.int .i64 z)) (by omega)), rfl⟩
    · replace E := hide (show wrapI m i n = n - 1 by rw [unhide E]; omega)
      go_enter Try.func16, Try.ntmps16
      go_wp2
      all_goals go_ret
      all_goals rw [unhide E]
      all_goals exact ⟨by first | rfl | (exact congrArg (fun z => Ending.returned (Value.int .i64 z)) (by omega)), rfl⟩
  have d2 : (m == 2) = false := by rw [beq_eq_false_iff_ne]; exact m2
  rw [if_neg m2] at E
  clear m2
  by_cases m3 : m = 3
  · rw [if_pos m3] at E
    have d3 : (m == 3) = true := by rw [beq_iff_eq]; exact m3
    clear m3
    go_enter Try.func16, Try.ntmps16
    go_wp2_with fail
    refine (modulo_any i (2 * n) _ (by omega) (by omega)).mono ?_
    rintro e w1 ⟨rfl, rfl⟩
    have a1 := Int.emod_nonneg i (show 2 * n ≠ 0 by omega)
    have a2 := Int.emod_lt_of_pos i (show 0 < 2 * n by omega)
    generalize i % (2 * n) = x at *
    by_cases c1 : x ≤ 2 * n - 1 - x
    · replace E := hide (show wrapI m i n = x by rw [unhide E]; omega)
      go_wp2
      all_goals go_ret
      all_goals rw [unhide E]
      all_goals exact ⟨by first | rfl | (exact congrArg (fun z => Ending.returned (Value.int .i64 z)) (by omega)), rfl⟩
    · replace E := hide (show wrapI m i n = 2 * n - 1 - x by rw [unhide E]; omega)
      go_wp2
      all_goals go_ret
      all_goals rw [unhide E]
      all_goals exact ⟨by first | rfl | (exact congrArg (fun z => Ending.returned (Value.int .i64 z)) (by omega)), rfl⟩
  have d3 : (m == 3) = false := by rw [beq_eq_false_iff_ne]; exact m3
  rw [if_neg m3] at E
  clear m3
  go_enter Try.func16, Try.ntmps16
  go_wp2
  go_ret
  rw [unhide E]
  exact ⟨rfl, rfl⟩

theorem mul_fix {s u : Int} (h1 : 1 ≤ s ∧ s ≤ 64) (hu : I32 u) : -137438953472 ≤ s * u ∧ s * u ≤ 137438953472 := by
  obtain ⟨a, b⟩ := hu
  have c : s * u ≤ s * 2147483648 := Int.mul_le_mul_of_nonneg_left (by omega) (by omega)
  have d : s * (-2147483648) ≤ s * u := Int.mul_le_mul_of_nonneg_left (by omega) (by omega)
  omega

set_option maxHeartbeats 1000000 in
theorem between_any (s u : Int) (w : World) (h1 : 1 ≤ s ∧ s ≤ 64) (hu : I32 u) :
    Calls Try.prog 19 #[.int .i64 s, .int .i32 u] w fun e w' => e = .returned (.tuple #[.int .i64 ((s * u - 32768) / 65536), .int .i64 ((s * u - 32768) % 65536)]) ∧ w' = w := by
  obtain ⟨b1, b2⟩ := mul_fix h1 hu
  have hu1 := hu.1
  have hu2 := hu.2
  clear hu
  go_enter Try.func19, Try.ntmps19
  go_wp2
  refine bodyPost_ret (v := .tuple #[.int .i64 ((s * u - 32768) / 65536), .int .i64 ((s * u - 32768) % 65536)]) ?_ rfl ⟨rfl, rfl⟩
  have e : s * u - 32768 - (s * u - 32768) / 65536 * 65536 = (s * u - 32768) % 65536 := by omega
  simp [results, Try.results19, go_sem, e]

section
variable {w : World} {v : Value} {L : List Ent} {I : Img}
theorem rf_yes {lv : Int} (hok : okB (sizI I.f) I = true) (h : hasB I.L lv = true) : rfE I lv = 0 := by unfold rfE; rw [hok, h]; simp
theorem rf_no {lv : Int} (hok : okB (sizI I.f) I = true) (h : hasB I.L lv = false) : rfE I lv = 4 := by unfold rfE; rw [hok, h]; simp
theorem rf_bad {lv : Int} (hok : okB (sizI I.f) I = false) : rfE I lv = 180 := by unfold rfE; rw [hok]; simp
set_option maxRecDepth 10000 in
set_option maxHeartbeats 1000000 in
theorem refusal_any (h : LR w v L) (hL : L.length ≤ 4000000000000) (hA : I.L = absL L) (lv : Int) :
    Calls Try.prog 17 #[.agg #[.int .i64 I.f, v, .int .i64 I.ws, .int .i64 I.wt, .int .i64 I.mn, .int .i64 I.mg], .int .i64 lv] w fun e w' => e = .returned (.int .i64 (rfE I lv)) ∧ Ext w w' := by
  obtain ⟨ao, cap, rfl, hao, hlc, hcm, _⟩ := h.shape
  have hcm2 : cap ≤ 9223372036854775807 := by unfold maxLen at hcm; omega
  have H1 := hide (And.intro ((Ext.refl w).alloc (.cells #[.int .i64 I.f, .slice ao L.length cap, .int .i64 I.ws, .int .i64 I.wt, .int .i64 I.mn, .int .i64 I.mg] 24)) (Blk.new w #[.int .i64 I.f, .slice ao L.length cap, .int .i64 I.ws, .int .i64 I.wt, .int .i64 I.mn, .int .i64 I.mg] 24))
  have HA := hide hA
  have HH := hide h
  clear h hA hao hcm
  go_enter Try.func17, Try.ntmps17
  go_wp2_with fail
  refine (check_any (I := I) ((unhide HH).ext (unhide H1).1) hL (unhide HA)).mono ?_
  rintro e w3 ⟨rfl, hx3⟩
  have H3 := hide (And.intro ((unhide H1).1.trans hx3) ((unhide H1).2.ext hx3))
  clear H1 hx3
  obtain ⟨q0, q1, q2, q3, q4, q5⟩ := (unhide H3).2.six
  cases hok : okB (sizI I.f) I with
  | false =>
    have c1 := chkE_no (I := I) (by rw [hok]; simp)
    have E := hide (rf_bad (lv := lv) hok)
    rw [c1]
    clear c1 hok
    go_wp2
    go_ret
    rw [unhide E]
    exact ⟨rfl, (unhide H3).1⟩
  | true =>
  have c1 := chkE_yes (I := I) hok
  rw [c1]
  have HY : Hid (hasB (absL L) lv = true → rfE I lv = 0) := fun h9 => rf_yes hok (by rw [unhide HA]; exact h9)
  have HN : Hid (hasB (absL L) lv = false → rfE I lv = 4) := fun h9 => rf_no hok (by rw [unhide HA]; exact h9)
  have HOK : Hid (∀ l ∈ absL L, lvB (sizI I.f) l = true) := by
    have := (okB_iff.1 hok).2.2.1
    rw [unhide HA] at this
    exact this
  clear c1 hok
  by_cases a1 : lv < 0
  · have E := hide (unhide HN (by simp [hasB]; omega))
    clear HN HY
    go_wp2
    go_ret
    rw [unhide E]
    exact ⟨rfl, (unhide H3).1⟩
  obtain ⟨k, rfl⟩ := Int.eq_ofNat_of_zero_le (show 0 ≤ lv by omega)
  by_cases a2 : k < L.length
  · obtain ⟨b, off, bo, bcap, rfl, eb, c0, c1, c2, hr⟩ := ((unhide HH).ext (unhide H3).1).at k a2
    have E0 : hasB (absL L) (k : Int) = decide (0 < L[k].1) := by unfold hasB; rw [absL_len, Int.toNat_natCast, absL_getD L k a2]; simp [a2, absE]; rfl
    have a3 : (k : Int) < (L.length : Int) := by omega
    have hl := unhide HOK (absE L[k]) (by rw [← absL_get L k a2]; exact List.getElem_mem _)
    have hW : 0 ≤ L[k].1 := by
      unfold lvB at hl
      rw [Bool.or_eq_true] at hl
      rcases hl with hl | hl
      · have h8 : L[k].1 = 0 := (noneB_iff.1 hl).1
        omega
      · have h8 : 1 ≤ L[k].1 := (goodB_iff.1 hl).1.1
        omega
    generalize L[k].1 = W at c0 E0 hW
    clear c1 c2 hr eb a2 hl
    by_cases hz : W = 0
    · have E := hide (unhide HN (by rw [E0]; simp; omega))
      have d0 : (W == 0) = true := by rw [beq_iff_eq]; exact hz
      clear HN HY E0 hz
      go_wp2
      go_ret
      rw [unhide E]
      exact ⟨rfl, (unhide H3).1⟩
    · have E := hide (unhide HY (by rw [E0]; simp; omega))
      have d0 : (W == 0) = false := by rw [beq_eq_false_iff_ne]; exact hz
      clear HN HY E0 hz
      go_wp2
      go_ret
      rw [unhide E]
      exact ⟨rfl, (unhide H3).1⟩
  · have E := hide (unhide HN (by simp [hasB, absL_len]; omega))
    have a3 : ¬ (k : Int) < (L.length : Int) := by omega
    clear HN HY
    go_wp2
    go_ret
    rw [unhide E]
    exact ⟨rfl, (unhide H3).1⟩
end
end Go.Proofs.Ytadajaoidhbmgaa
