/-
  Images: the document's Generate: what it refuses; the pixels of which one is the mean, as the document takes them.
-/
import Derived.Test.YtpjapdifmfpcnaaRO
import Derived.Test.YtpjapdifmfpcnaaJP
import Derived.Test.YtpjapdifmfpcnaaRB
namespace Go.Proofs.Ytpjapdifmfpcnaa
open Go.RowKit
set_option linter.unusedVariables false
set_option linter.unusedSimpArgs false

theorem th_has {s : Int} {A : List Lev} (ha : ∀ l ∈ A, lvB s l = true) (i : Int) : thB A i = hasB A i := by
  unfold thB hasB
  by_cases hi : 0 ≤ i ∧ i < A.length
  · have hk : i.toNat < A.length := by omega
    have hm : A.getD i.toNat noLev ∈ A := by
      rw [List.getD_eq_getElem?_getD, List.getElem?_eq_getElem hk, Option.getD_some]
      exact List.getElem_mem hk
    have h3 := ha _ hm
    generalize A.getD i.toNat noLev = l at *
    rw [decide_eq_true hi, Bool.true_and, Bool.true_and]
    cases hn : noneB l with
    | true =>
      unfold noneB at hn
      simp only [decide_eq_true_eq] at hn
      simp [hn.1]
    | false =>
      unfold lvB at h3
      rw [hn, Bool.false_or] at h3
      obtain ⟨a1, _, _⟩ := goodB_iff.1 h3
      simp
      omega
  · rw [decide_eq_false hi, Bool.false_and, Bool.false_and]

/-- The pixels that are taken of the first k places. -/
def frL (s W H : Nat) (xs : List Int) (x y : Nat) : Nat → List (List Int)
  | 0 => []
  | k + 1 => frL s W H xs x y k ++ if 2 * x + k % 2 < W ∧ 2 * y + k / 2 < H then [cellL s xs ((2 * y + k / 2) * W + (2 * x + k % 2))] else []
theorem frL_grp {s W H : Nat} {xs : List Int} {x y : Nat} (hx : 2 * x + min 2 W ≤ W) (hy : 2 * y + min 2 H ≤ H) (hW : 1 ≤ W) (hH : 1 ≤ H) : frL s W H xs x y 4 = grp s W H xs x y := by
  rcases (by omega : W = 1 ∨ 2 ≤ W) with rfl | hw <;> rcases (by omega : H = 1 ∨ 2 ≤ H) with rfl | hh
  · obtain rfl : x = 0 := by omega
    obtain rfl : y = 0 := by omega
    rfl
  · obtain rfl : x = 0 := by omega
    have m2 : min 2 H = 2 := by omega
    have c0 : 2 * y < H := by omega
    have c1 : 2 * y + 1 < H := by omega
    unfold grp
    rw [m2]
    simp [frL, pq, c0, c1, List.range_succ]
  · obtain rfl : y = 0 := by omega
    have m2 : min 2 W = 2 := by omega
    have c0 : 2 * x < W := by omega
    have c1 : 2 * x + 1 < W := by omega
    unfold grp
    rw [m2]
    simp [frL, pq, c0, c1, List.range_succ]
  · have m2 : min 2 W = 2 := by omega
    have m3 : min 2 H = 2 := by omega
    have c0 : 2 * x < W := by omega
    have c1 : 2 * x + 1 < W := by omega
    have d0 : 2 * y < H := by omega
    have d1 : 2 * y + 1 < H := by omega
    unfold grp
    rw [m2, m3]
    simp [frL, pq, c0, c1, d0, d1, List.range_succ]
theorem frL_le (s W H : Nat) (xs : List Int) (x y : Nat) : ∀ k, (frL s W H xs x y k).length ≤ k
  | 0 => Nat.le_refl _
  | k + 1 => by
    rw [frL, List.length_append]
    have := frL_le s W H xs x y k
    split <;> simp <;> omega

section
variable {w : World} {v : Value} {L : List Ent} {I : Img}
set_option maxRecDepth 10000 in
set_option maxHeartbeats 2000000 in
theorem refGen_bad (h : LR w v L) (hL : L.length ≤ 1000) (hA : I.L = absL L) (hE : genE I ≠ 0) :
    Calls Try.prog 17 #[.agg #[.int .i64 I.f, v, .int .i64 I.ws, .int .i64 I.wt, .int .i64 I.mn, .int .i64 I.mg]] w fun e w' => e = .returned (.tuple #[.agg #[.int .i64 0, .slice none 0 0, .int .i64 0, .int .i64 0, .int .i64 0, .int .i64 0], .int .i64 (genE I)]) ∧ Ext w w' := by
  obtain ⟨ao, cap, rfl, hao, hlc, hcm, _⟩ := h.shape
  have hcm2 : cap ≤ 9223372036854775807 := by unfold maxLen at hcm; omega
  have HH := hide h
  have HA := hide hA
  have hX1 := ((Ext.refl w).alloc (.cells #[.int .i64 I.f, .slice ao L.length cap, .int .i64 I.ws, .int .i64 I.wt, .int .i64 I.mn, .int .i64 I.mg] 24)).alloc (.cells #[.int .i64 0, .slice none 0 0, .int .i64 0, .int .i64 0, .int .i64 0, .int .i64 0] 24)
  have hB1 := (Blk.new w #[.int .i64 I.f, .slice ao L.length cap, .int .i64 I.ws, .int .i64 I.wt, .int .i64 I.mn, .int .i64 I.mg] 24).alloc (.cells #[.int .i64 0, .slice none 0 0, .int .i64 0, .int .i64 0, .int .i64 0, .int .i64 0] 24)
  have hR1 : Blk ((w.alloc (.cells #[.int .i64 I.f, .slice ao L.length cap, .int .i64 I.ws, .int .i64 I.wt, .int .i64 I.mn, .int .i64 I.mg] 24)).alloc (.cells #[.int .i64 0, .slice none 0 0, .int .i64 0, .int .i64 0, .int .i64 0, .int .i64 0] 24)) (w.heap.size + 1) #[.int .i64 0, .slice none 0 0, .int .i64 0, .int .i64 0, .int .i64 0, .int .i64 0] 24 := Blk.at (by simp)
  have H1 := hide (And.intro hX1 (And.intro hB1 hR1))
  have HE : Hid (genE I = if okB (sizI I.f) I = false then 180 else if hasB (absL L) 0 = false then 4 else if (powB ((absL L).getD 0 noLev).1 && powB ((absL L).getD 0 noLev).2.1) = false then 2 else 0) := by rw [← hA]; exact rfl
  have HN := hide hE
  clear h hA hao hcm hX1 hB1 hR1 hE
  go_enter Try.func17, Try.ntmps17
  go_wp2_with fail
  refine (refRight_any (I := I) ((unhide HH).ext (unhide H1).1) (unhide HA)).mono ?_
  rintro e w3 ⟨rfl, hx3⟩
  have H3 := hide (And.intro ((unhide H1).1.trans hx3) (And.intro ((unhide H1).2.1.ext hx3) ((unhide H1).2.2.ext hx3)))
  clear H1 hx3
  obtain ⟨q0, q1, q2, q3, q4, q5⟩ := (unhide H3).2.1.six
  cases hok : okB (sizI I.f) I with
  | false =>
    have E := hide (show genE I = 180 by rw [unhide HE, if_pos hok])
    clear hok HE
    obtain ⟨z0, z1, z2, z3, z4, z5⟩ := (unhide H3).2.2.six
    obtain ⟨f0, f1, f2, f3, f4, f5⟩ := (unhide H3).2.2.frees
    have hB7 := (unhide H3).2.2.put6 (.int .i64 0) (.slice none 0 0) (.int .i64 0) (.int .i64 0) (.int .i64 0) (.int .i64 0)
    have hg7 := grown_put6 w3 (w.heap.size + 1) (.int .i64 0) (.slice none 0 0) (.int .i64 0) (.int .i64 0) (.int .i64 0) (.int .i64 0)
    have hX7 : Ext w _ := below_grown (unhide H3).1 hg7 (unhide H3).1.size (by omega)
    have H7 := hide (And.intro hB7 hX7)
    clear hB7 hg7 hX7
    go_wp2
    obtain ⟨r0, r1, r2, r3, r4, r5⟩ := (unhide H7).1.six
    refine bodyPost_ret (v := .tuple #[.agg #[.int .i64 0, .slice none 0 0, .int .i64 0, .int .i64 0, .int .i64 0, .int .i64 0], .int .i64 180]) (by simp [results, Try.results17, go_sem, r0, r1, r2, r3, r4, r5]) rfl ?_
    rw [unhide E]
    exact ⟨rfl, (unhide H7).2⟩
  | true =>
    rw [hok, if_neg (by simp)] at HE
    have HOK := hide hok
    have HTH : Hid (thB (absL L) 0 = hasB (absL L) 0) := th_has (s := sizI I.f) (by rw [← unhide HA]; exact (okB_iff.1 hok).2.2.1) 0
    clear hok
    go_wp2_with fail
    refine (refThere_any (I := I) ((unhide HH).ext (unhide H3).1) 0).mono ?_
    rintro e w4 ⟨rfl, hx4⟩
    rw [unhide HTH]
    have H4 := hide (And.intro ((unhide H3).1.trans hx4) (And.intro ((unhide H3).2.1.ext hx4) ((unhide H3).2.2.ext hx4)))
    clear H3 hx4 q0 q1 q2 q3 q4 q5 HTH
    cases hh : hasB (absL L) 0 with
    | false =>
      have E := hide (show genE I = 4 by rw [unhide HE, if_pos hh])
      clear hh HE
      obtain ⟨z0, z1, z2, z3, z4, z5⟩ := (unhide H4).2.2.six
      obtain ⟨f0, f1, f2, f3, f4, f5⟩ := (unhide H4).2.2.frees
      have hB7 := (unhide H4).2.2.put6 (.int .i64 0) (.slice none 0 0) (.int .i64 0) (.int .i64 0) (.int .i64 0) (.int .i64 0)
      have hg7 := grown_put6 w4 (w.heap.size + 1) (.int .i64 0) (.slice none 0 0) (.int .i64 0) (.int .i64 0) (.int .i64 0) (.int .i64 0)
      have hX7 : Ext w _ := below_grown (unhide H4).1 hg7 (unhide H4).1.size (by omega)
      have H7 := hide (And.intro hB7 hX7)
      clear hB7 hg7 hX7
      go_wp2
      obtain ⟨r0, r1, r2, r3, r4, r5⟩ := (unhide H7).1.six
      refine bodyPost_ret (v := .tuple #[.agg #[.int .i64 0, .slice none 0 0, .int .i64 0, .int .i64 0, .int .i64 0, .int .i64 0], .int .i64 4]) (by simp [results, Try.results17, go_sem, r0, r1, r2, r3, r4, r5]) rfl ?_
      rw [unhide E]
      exact ⟨rfl, (unhide H7).2⟩
    | true =>
      obtain ⟨k, hk, hk0, hget, hw⟩ := has_get hh
      obtain rfl : k = 0 := by omega
      obtain ⟨⟨a1, a2⟩, ⟨b1, b2⟩, _, _⟩ := lev_good (unhide HOK) (unhide HA) hk hw
      rw [show (0 : Int).toNat = 0 from rfl] at hget
      rw [hh, if_neg (by simp), hget] at HE
      have ee : (absE L[0]).1 = L[0].1 ∧ (absE L[0]).2.1 = L[0].2.1 := ⟨rfl, rfl⟩
      rw [ee.1, ee.2] at HE
      have hpw : (powB L[0].1 && powB L[0].2.1) = false := by
        cases h9 : (powB L[0].1 && powB L[0].2.1) with
        | false => rfl
        | true =>
          exfalso
          refine unhide HN ?_
          rw [unhide HE, if_neg (by rw [h9]; simp)]
      have E := hide (show genE I = 2 by rw [unhide HE, if_pos hpw])
      obtain ⟨b, off, bo, bcap, rfl, eb, c0, c1, c2, hr⟩ := ((unhide HH).ext (unhide H4).1).at 0 hk
      simp only [Nat.zero_mul, Nat.add_zero] at c0 c1 c2
      have q1 := (unhide H4).2.1.six.2.1
      have hkn : (0 : Int) < (L.length : Int) := by omega
      have HP1 : Hid (∀ wx, Calls Try.prog 37 #[.int .i64 L[0].1] wx fun e w' => e = .returned (.bool (powB L[0].1)) ∧ wx = w') := fun wx => by
        refine (refPower_any L[0].1 wx a1 a2).mono ?_
        rintro e w' ⟨rfl, rfl⟩
        exact ⟨rfl, rfl⟩
      have HP2 : Hid (∀ wx, Calls Try.prog 37 #[.int .i64 L[0].2.1] wx fun e w' => e = .returned (.bool (powB L[0].2.1)) ∧ wx = w') := fun wx => by
        refine (refPower_any L[0].2.1 wx b1 b2).mono ?_
        rintro e w' ⟨rfl, rfl⟩
        exact ⟨rfl, rfl⟩
      generalize L[0].1 = W at *
      generalize L[0].2.1 = H at *
      clear hr eb hget ee hh HE HN hk0
      cases hp1 : powB W with
      | false =>
        rw [hp1] at HP1
        clear hpw hp1 HP2
        obtain ⟨z0, z1, z2, z3, z4, z5⟩ := (unhide H4).2.2.six
        obtain ⟨f0, f1, f2, f3, f4, f5⟩ := (unhide H4).2.2.frees
        have hB7 := (unhide H4).2.2.put6 (.int .i64 0) (.slice none 0 0) (.int .i64 0) (.int .i64 0) (.int .i64 0) (.int .i64 0)
        have hg7 := grown_put6 w4 (w.heap.size + 1) (.int .i64 0) (.slice none 0 0) (.int .i64 0) (.int .i64 0) (.int .i64 0) (.int .i64 0)
        have hX7 : Ext w _ := below_grown (unhide H4).1 hg7 (unhide H4).1.size (by omega)
        have H7 := hide (And.intro hB7 hX7)
        clear hB7 hg7 hX7
        go_wp2_with (first | (go_at_call 37; with_reducible refine (unhide HP1 _).mono ?_; rintro e ws ⟨rfl, rfl⟩))
        obtain ⟨r0, r1, r2, r3, r4, r5⟩ := (unhide H7).1.six
        refine bodyPost_ret (v := .tuple #[.agg #[.int .i64 0, .slice none 0 0, .int .i64 0, .int .i64 0, .int .i64 0, .int .i64 0], .int .i64 2]) (by simp [results, Try.results17, go_sem, r0, r1, r2, r3, r4, r5]) rfl ?_
        rw [unhide E]
        exact ⟨rfl, (unhide H7).2⟩
      | true =>
        have hp2 : powB H = false := by
          rw [hp1] at hpw
          simpa using hpw
        rw [hp1] at HP1
        rw [hp2] at HP2
        clear hpw hp1 hp2
        obtain ⟨z0, z1, z2, z3, z4, z5⟩ := (unhide H4).2.2.six
        obtain ⟨f0, f1, f2, f3, f4, f5⟩ := (unhide H4).2.2.frees
        have hB7 := (unhide H4).2.2.put6 (.int .i64 0) (.slice none 0 0) (.int .i64 0) (.int .i64 0) (.int .i64 0) (.int .i64 0)
        have hg7 := grown_put6 w4 (w.heap.size + 1) (.int .i64 0) (.slice none 0 0) (.int .i64 0) (.int .i64 0) (.int .i64 0) (.int .i64 0)
        have hX7 : Ext w _ := below_grown (unhide H4).1 hg7 (unhide H4).1.size (by omega)
        have H7 := hide (And.intro hB7 hX7)
        clear hB7 hg7 hX7
        go_wp2_with (first | (go_at_call 37; first | (with_reducible refine (unhide HP1 _).mono ?_; rintro e ws ⟨rfl, rfl⟩) | (with_reducible refine (unhide HP2 _).mono ?_; rintro e ws ⟨rfl, rfl⟩)))
        obtain ⟨r0, r1, r2, r3, r4, r5⟩ := (unhide H7).1.six
        refine bodyPost_ret (v := .tuple #[.agg #[.int .i64 0, .slice none 0 0, .int .i64 0, .int .i64 0, .int .i64 0, .int .i64 0], .int .i64 2]) (by simp [results, Try.results17, go_sem, r0, r1, r2, r3, r4, r5]) rfl ?_
        rw [unhide E]
        exact ⟨rfl, (unhide H7).2⟩
end
end Go.Proofs.Ytpjapdifmfpcnaa
