/-
  Images: the document's within, Get.
-/
import Derived.Test.YtpjapdifmfpcnaaJI
import Derived.Test.YtpjapdifmfpcnaaRE
namespace Go.Proofs.Ytpjapdifmfpcnaa
open Go.RowKit
set_option linter.unusedVariables false
set_option linter.unusedSimpArgs false

theorem th_has {s : Int} {A : List Lev} (ha : ∀ l ∈ A, lvB s l = true) (i : Int) : thB A i = hasB A i := by
  unfold thB hasB
  by_cases hi : 0 ≤ i ∧ i < A.length
  · have hk : i.toNat < A.length := by omega
    have hm : A.getD i.toNat noLev ∈ A := by
      rw [List.getD_eq_getElem?_getD, List.getElem?_eq_getElem hk, Option.getD_some]
      exact List.getElem_mem hk
    have h3 := ha _ hm
    generalize A.getD i.toNat noLev = l at *
    rw [decide_eq_true hi, Bool.true_and, Bool.true_and]
    cases hn : noneB l with
    | true =>
      unfold noneB at hn
      simp only [decide_eq_true_eq] at hn
      simp [hn.1]
    | false =>
      unfold lvB at h3
      rw [hn, Bool.false_or] at h3
      obtain ⟨a1, _, _⟩ := goodB_iff.1 h3
      simp
      omega
  · rw [decide_eq_false hi, Bool.false_and, Bool.false_and]

theorem in_no {W H X Y pw ph : Int} (h : ¬ (0 ≤ X ∧ 0 ≤ Y ∧ 0 ≤ pw ∧ 0 ≤ ph ∧ X ≤ W ∧ Y ≤ H ∧ pw ≤ W - X ∧ ph ≤ H - Y)) : inP W H X Y pw ph = false := by
  cases h1 : inP W H X Y pw ph with
  | false => rfl
  | true =>
    unfold inP at h1
    simp only [Bool.and_eq_true, decide_eq_true_eq] at h1
    exact absurd ⟨h1.1.1, h1.2.1, h1.1.2.2.1, h1.2.2.2.1, h1.1.2.1, h1.2.2.1, h1.1.2.2.2, h1.2.2.2.2⟩ h

set_option maxRecDepth 10000 in
set_option maxHeartbeats 2000000 in
theorem refWithin_any (W H X Y pw ph : Int) (u : Value) (ao : Option Addr) (n cap : Nat) (hu : u = .slice ao n cap) (hW : 0 ≤ W ∧ W ≤ 1000) (hH : 0 ≤ H ∧ H ≤ 1000) (w : World) :
    Calls Try.prog 33 #[.agg #[.int .i64 W, .int .i64 H, u], .agg #[.int .i64 X, .int .i64 Y, .int .i64 pw, .int .i64 ph]] w fun e w' => e = .returned (.bool (inP W H X Y pw ph)) ∧ Ext w w' := by
  subst hu
  have HX := hide (((Ext.refl w).alloc (.cells #[.int .i64 W, .int .i64 H, .slice ao n cap] 48)).alloc (.cells #[.int .i64 X, .int .i64 Y, .int .i64 pw, .int .i64 ph] 26))
  by_cases c0 : 0 ≤ X
  case neg =>
    have E := hide (show inP W H X Y pw ph = false from in_no (fun h => c0 h.1))
    go_enter Try.func33, Try.ntmps33
    go_wp2
    go_ret
    rw [unhide E]
    exact ⟨rfl, unhide HX⟩
  case pos =>
  by_cases c1 : 0 ≤ Y
  case neg =>
    have E := hide (show inP W H X Y pw ph = false from in_no (fun h => c1 h.2.1))
    go_enter Try.func33, Try.ntmps33
    go_wp2
    go_ret
    rw [unhide E]
    exact ⟨rfl, unhide HX⟩
  case pos =>
  by_cases c2 : 0 ≤ pw
  case neg =>
    have E := hide (show inP W H X Y pw ph = false from in_no (fun h => c2 h.2.2.1))
    go_enter Try.func33, Try.ntmps33
    go_wp2
    go_ret
    rw [unhide E]
    exact ⟨rfl, unhide HX⟩
  case pos =>
  by_cases c3 : 0 ≤ ph
  case neg =>
    have E := hide (show inP W H X Y pw ph = false from in_no (fun h => c3 h.2.2.2.1))
    go_enter Try.func33, Try.ntmps33
    go_wp2
    go_ret
    rw [unhide E]
    exact ⟨rfl, unhide HX⟩
  case pos =>
  by_cases c4 : X ≤ W
  case neg =>
    have E := hide (show inP W H X Y pw ph = false from in_no (fun h => c4 h.2.2.2.2.1))
    go_enter Try.func33, Try.ntmps33
    go_wp2
    go_ret
    rw [unhide E]
    exact ⟨rfl, unhide HX⟩
  case pos =>
  by_cases c5 : Y ≤ H
  case neg =>
    have E := hide (show inP W H X Y pw ph = false from in_no (fun h => c5 h.2.2.2.2.2.1))
    go_enter Try.func33, Try.ntmps33
    go_wp2
    go_ret
    rw [unhide E]
    exact ⟨rfl, unhide HX⟩
  case pos =>
  by_cases c6 : pw ≤ W - X
  case neg =>
    have E := hide (show inP W H X Y pw ph = false from in_no (fun h => c6 h.2.2.2.2.2.2.1))
    go_enter Try.func33, Try.ntmps33
    go_wp2
    go_ret
    rw [unhide E]
    exact ⟨rfl, unhide HX⟩
  case pos =>
  by_cases c7 : ph ≤ H - Y
  case neg =>
    have E := hide (show inP W H X Y pw ph = false from in_no (fun h => c7 h.2.2.2.2.2.2.2))
    go_enter Try.func33, Try.ntmps33
    go_wp2
    go_ret
    rw [unhide E]
    exact ⟨rfl, unhide HX⟩
  case pos =>
  have E := hide (show inP W H X Y pw ph = true by simp [inP, c0, c1, c2, c3, c4, c5, c6, c7])
  go_enter Try.func33, Try.ntmps33
  go_wp2
  go_ret
  rw [unhide E]
  exact ⟨rfl, unhide HX⟩

section
variable {w : World} {v : Value} {L : List Ent} {I : Img}
/-- What the document's Get meets first. -/
theorem refGet_bad (h : LR w v L) (hL : L.length ≤ 1000) (hA : I.L = absL L) (lv X Y pw ph : Int) (hE : pieceE I lv X Y pw ph ≠ 0) :
    Calls Try.prog 14 #[.agg #[.int .i64 I.f, v, .int .i64 I.ws, .int .i64 I.wt, .int .i64 I.mn, .int .i64 I.mg], .int .i64 lv, .agg #[.int .i64 X, .int .i64 Y, .int .i64 pw, .int .i64 ph]] w fun e w' => e = .returned (.tuple #[.slice none 0 0, .int .i64 (pieceE I lv X Y pw ph)]) ∧ Ext w w' := by
  obtain ⟨ao, cap, rfl, hao, hlc, hcm, _⟩ := h.shape
  have hcm2 : cap ≤ 9223372036854775807 := by unfold maxLen at hcm; omega
  have HA := hide hA
  have HH := hide h
  have hX1 := ((Ext.refl w).alloc (.cells #[.int .i64 I.f, .slice ao L.length cap, .int .i64 I.ws, .int .i64 I.wt, .int .i64 I.mn, .int .i64 I.mg] 24)).alloc (.cells #[.int .i64 X, .int .i64 Y, .int .i64 pw, .int .i64 ph] 26)
  have hB1 := (Blk.new w #[.int .i64 I.f, .slice ao L.length cap, .int .i64 I.ws, .int .i64 I.wt, .int .i64 I.mn, .int .i64 I.mg] 24).alloc (.cells #[.int .i64 X, .int .i64 Y, .int .i64 pw, .int .i64 ph] 26)
  have hP1 : Blk ((w.alloc (.cells #[.int .i64 I.f, .slice ao L.length cap, .int .i64 I.ws, .int .i64 I.wt, .int .i64 I.mn, .int .i64 I.mg] 24)).alloc (.cells #[.int .i64 X, .int .i64 Y, .int .i64 pw, .int .i64 ph] 26)) (w.heap.size + 1) #[.int .i64 X, .int .i64 Y, .int .i64 pw, .int .i64 ph] 26 := Blk.at (by simp)
  have H1 := hide (And.intro hX1 (And.intro hB1 hP1))
  have HE : Hid (pieceE I lv X Y pw ph = if okB (sizI I.f) I = false then 180 else if hasB (absL L) lv = false then 4 else if inP ((absL L).getD lv.toNat noLev).1 ((absL L).getD lv.toNat noLev).2.1 X Y pw ph = false then 2 else 0) := by rw [← hA]; exact rfl
  have HN := hide hE
  clear h hA hao hcm hX1 hB1 hP1 hE
  go_enter Try.func14, Try.ntmps14
  go_wp2_with fail
  refine (refRight_any (I := I) ((unhide HH).ext (unhide H1).1) (unhide HA)).mono ?_
  rintro e w3 ⟨rfl, hx3⟩
  have H3 := hide (And.intro ((unhide H1).1.trans hx3) (And.intro ((unhide H1).2.1.ext hx3) ((unhide H1).2.2.ext hx3)))
  clear H1 hx3
  obtain ⟨q0, q1, q2, q3, q4, q5⟩ := (unhide H3).2.1.six
  cases hok : okB (sizI I.f) I with
  | false =>
    have E := hide (show pieceE I lv X Y pw ph = 180 by rw [unhide HE, if_pos hok])
    clear hok HE
    go_wp2
    go_ret2
    rw [unhide E]
    exact ⟨rfl, (unhide H3).1⟩
  | true =>
    rw [hok, if_neg (by simp)] at HE
    have HOK := hide hok
    have HTH : Hid (thB (absL L) lv = hasB (absL L) lv) := th_has (s := sizI I.f) (by rw [← unhide HA]; exact (okB_iff.1 hok).2.2.1) lv
    clear hok
    go_wp2_with fail
    refine (refThere_any (I := I) ((unhide HH).ext (unhide H3).1) lv).mono ?_
    rintro e w4 ⟨rfl, hx4⟩
    rw [unhide HTH]
    have H4 := hide (And.intro ((unhide H3).1.trans hx4) (And.intro ((unhide H3).2.1.ext hx4) ((unhide H3).2.2.ext hx4)))
    clear H3 hx4 q0 q1 q2 q3 q4 q5 HTH
    cases hh : hasB (absL L) lv with
    | false =>
      have E := hide (show pieceE I lv X Y pw ph = 4 by rw [unhide HE, if_pos hh])
      clear hh HE
      go_wp2
      go_ret2
      rw [unhide E]
      exact ⟨rfl, (unhide H4).1⟩
    | true =>
      obtain ⟨k, hk, rfl, hget, hw⟩ := has_get hh
      obtain ⟨⟨a1, a2⟩, ⟨b1, b2⟩, _, _⟩ := lev_good (unhide HOK) (unhide HA) hk hw
      rw [hh, if_neg (by simp), hget] at HE
      have ee : (absE L[k]).1 = L[k].1 ∧ (absE L[k]).2.1 = L[k].2.1 := ⟨rfl, rfl⟩
      rw [ee.1, ee.2] at HE
      have hin : inP L[k].1 L[k].2.1 X Y pw ph = false := by
        cases h9 : inP L[k].1 L[k].2.1 X Y pw ph with
        | false => rfl
        | true =>
          exfalso
          refine unhide HN ?_
          rw [unhide HE, if_neg (by rw [h9]; simp)]
      have E := hide (show pieceE I k X Y pw ph = 2 by rw [unhide HE, if_pos hin])
      obtain ⟨b, off, bo, bcap, rfl, eb, c0, c1, c2, hr⟩ := ((unhide HH).ext (unhide H4).1).at k hk
      have m0 := cell_later (unhide H4).2.1.six.2.1
      have m1 := cell_later c0
      have m2 := cell_later c1
      have m3 := cell_later c2
      obtain ⟨p0, p1, p2, p3⟩ := (unhide H4).2.2.four
      have n0 := cell_later p0
      have n1 := cell_later p1
      have n2 := cell_later p2
      have n3 := cell_later p3
      have hne := Later.some w4
      have hkn : (k : Int) < (L.length : Int) := by omega
      have HIN := hide hin
      generalize L[k].1 = W at *
      generalize L[k].2.1 = H at *
      generalize L[k].2.2.2.length = bn at *
      clear c0 c1 c2 hr eb hget ee p0 p1 p2 p3 hh hin HE HN
      go_wp2
      refine wp_region_later (by kernel_rfl) (by kernel_rfl) ?_
      repeat (go_big_quiet_step (first | (go_at_call 33; refine calls_later (refWithin_any W H X Y pw ph _ bo bn bcap rfl (by omega) (by omega) _))))
      refine wpQuiet_nil ?_
      rintro _ ⟨x, rfl⟩
      have hx5 := hide ((unhide H4).1.trans x.ext)
      generalize x.w = w5 at hx5 ⊢
      rw [unhide HIN]
      go_wp2
      go_ret2
      rw [unhide E]
      exact ⟨rfl, unhide hx5⟩
end
end Go.Proofs.Ytpjapdifmfpcnaa
