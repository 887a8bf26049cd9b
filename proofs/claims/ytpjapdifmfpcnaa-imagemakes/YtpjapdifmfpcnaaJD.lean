/-
  Images: the walks of pieceRefusal and Get.
-/
import Derived.Test.YtpjapdifmfpcnaaJC
namespace Go.Proofs.Ytpjapdifmfpcnaa
open Go.RowKit Go.Shelf
set_option linter.unusedVariables false
set_option linter.unusedSimpArgs false
attribute [local go_sem] Oper.semAt_some

/-- Why there is no such piece. -/
def pieceE (I : Img) (lv X Y pw ph : Int) : Int :=
  if okB (sizI I.f) I = false then 180 else if hasB I.L lv = false then 4 else if inP (I.L.getD lv.toNat noLev).1 (I.L.getD lv.toNat noLev).2.1 X Y pw ph = false then 2 else 0
theorem has_get {L : List Ent} {lv : Int} (h : hasB (absL L) lv = true) : ∃ (k : Nat) (hk : k < L.length), lv = (k : Int) ∧ (absL L).getD lv.toNat noLev = absE L[k] ∧ 0 < L[k].1 := by
  unfold hasB at h
  simp only [Bool.and_eq_true, decide_eq_true_eq] at h
  obtain ⟨⟨h0, h1⟩, h2⟩ := h
  rw [absL_len] at h1
  obtain ⟨k, rfl⟩ := Int.eq_ofNat_of_zero_le h0
  have hk : k < L.length := by omega
  rw [Int.toNat_natCast] at h2 ⊢
  rw [absL_getD L k hk] at h2
  exact ⟨k, hk, rfl, absL_getD L k hk, h2⟩
/-- A level that is there, of an image that may be. -/
theorem lev_good {I : Img} {L : List Ent} {k : Nat} (hok : okB (sizI I.f) I = true) (hA : I.L = absL L) (hk : k < L.length) (hw : 0 < L[k].1) : (1 ≤ L[k].1 ∧ L[k].1 ≤ 64) ∧ (1 ≤ L[k].2.1 ∧ L[k].2.1 ≤ 64) ∧ (L[k].2.2.2.length : Int) = L[k].1 * L[k].2.1 * sizI I.f ∧ sizI I.f ≠ 0 := by
  have h1 := okB_iff.1 hok
  have h3 := h1.2.2.1 (absE L[k]) (by rw [hA]; unfold absL; exact List.mem_map_of_mem (List.getElem_mem hk))
  have h4 := (h1.2.2.2.1 (by rw [hA, absL_len]; omega)).1
  unfold lvB at h3
  rw [Bool.or_eq_true] at h3
  rcases h3 with h3 | h3
  · have := (noneB_iff.1 h3).1
    simp [absE] at this
    omega
  · obtain ⟨a, b, c⟩ := goodB_iff.1 h3
    exact ⟨a, b, c, h4⟩

section
variable {w : World} {v : Value} {L : List Ent} {I : Img}
set_option maxRecDepth 10000 in
set_option maxHeartbeats 2000000 in
theorem pieceRefusal_any (h : LR w v L) (hL : L.length ≤ 1000) (hA : I.L = absL L) (lv X Y pw ph : Int) :
    Calls Try.prog 24 #[.agg #[.int .i64 I.f, v, .int .i64 I.ws, .int .i64 I.wt, .int .i64 I.mn, .int .i64 I.mg], .int .i64 lv, .agg #[.int .i64 X, .int .i64 Y, .int .i64 pw, .int .i64 ph]] w fun e w' => e = .returned (.int .i64 (pieceE I lv X Y pw ph)) ∧ Ext w w' := by
  obtain ⟨ao, cap, rfl, hao, hlc, hcm, _⟩ := h.shape
  have hcm2 : cap ≤ 9223372036854775807 := by unfold maxLen at hcm; omega
  have HA := hide hA
  have HH := hide h
  have hX1 := ((Ext.refl w).alloc (.cells #[.int .i64 I.f, .slice ao L.length cap, .int .i64 I.ws, .int .i64 I.wt, .int .i64 I.mn, .int .i64 I.mg] 24)).alloc (.cells #[.int .i64 X, .int .i64 Y, .int .i64 pw, .int .i64 ph] 26)
  have hB1 := (Blk.new w #[.int .i64 I.f, .slice ao L.length cap, .int .i64 I.ws, .int .i64 I.wt, .int .i64 I.mn, .int .i64 I.mg] 24).alloc (.cells #[.int .i64 X, .int .i64 Y, .int .i64 pw, .int .i64 ph] 26)
  have hP1 : Blk ((w.alloc (.cells #[.int .i64 I.f, .slice ao L.length cap, .int .i64 I.ws, .int .i64 I.wt, .int .i64 I.mn, .int .i64 I.mg] 24)).alloc (.cells #[.int .i64 X, .int .i64 Y, .int .i64 pw, .int .i64 ph] 26)) (w.heap.size + 1) #[.int .i64 X, .int .i64 Y, .int .i64 pw, .int .i64 ph] 26 := Blk.at (by simp)
  have H1 := hide (And.intro hX1 (And.intro hB1 hP1))
  have HE : Hid (pieceE I lv X Y pw ph = if okB (sizI I.f) I = false then 180 else if hasB (absL L) lv = false then 4 else if inP ((absL L).getD lv.toNat noLev).1 ((absL L).getD lv.toNat noLev).2.1 X Y pw ph = false then 2 else 0) := by rw [← hA]; exact rfl
  clear h hA hao hcm hX1 hB1 hP1
  go_enter Try.func24, Try.ntmps24
  go_wp2_with fail
  refine (check_any (I := I) ((unhide HH).ext (unhide H1).1) (by omega) (unhide HA)).mono ?_
  rintro e w3 ⟨rfl, hx3⟩
  have H3 := hide (And.intro ((unhide H1).1.trans hx3) (And.intro ((unhide H1).2.1.ext hx3) ((unhide H1).2.2.ext hx3)))
  clear H1 hx3
  obtain ⟨q0, q1, q2, q3, q4, q5⟩ := (unhide H3).2.1.six
  cases hok : okB (sizI I.f) I with
  | false =>
    have c1 := chkE_no (I := I) (by rw [hok]; simp)
    have E := hide (show pieceE I lv X Y pw ph = 180 by rw [unhide HE, if_pos hok])
    rw [c1]
    clear c1 hok HE
    go_wp2
    go_ret
    rw [unhide E]
    exact ⟨rfl, (unhide H3).1⟩
  | true =>
    have c1 := chkE_yes (I := I) hok
    rw [hok, if_neg (by simp)] at HE
    rw [c1]
    have HOK := hide hok
    clear c1 hok
    go_wp2_with fail
    refine (has_any (I := I) ((unhide HH).ext (unhide H3).1) lv).mono ?_
    rintro e w4 ⟨rfl, hx4⟩
    have H4 := hide (And.intro ((unhide H3).1.trans hx4) (And.intro ((unhide H3).2.1.ext hx4) ((unhide H3).2.2.ext hx4)))
    clear H3 hx4 q0 q1 q2 q3 q4 q5
    cases hh : hasB (absL L) lv with
    | false =>
      have E := hide (show pieceE I lv X Y pw ph = 4 by rw [unhide HE, if_pos hh])
      clear hh HE
      go_wp2
      go_ret
      rw [unhide E]
      exact ⟨rfl, (unhide H4).1⟩
    | true =>
      obtain ⟨k, hk, rfl, hget, hw⟩ := has_get hh
      obtain ⟨⟨a1, a2⟩, ⟨b1, b2⟩, _, _⟩ := lev_good (unhide HOK) (unhide HA) hk hw
      rw [hh, if_neg (by simp), hget] at HE
      obtain ⟨b, off, bo, bcap, rfl, eb, c0, c1, c2, hr⟩ := ((unhide HH).ext (unhide H4).1).at k hk
      have m0 := cell_later (unhide H4).2.1.six.2.1
      have m1 := cell_later c0
      have m2 := cell_later c1
      have m3 := cell_later c2
      obtain ⟨p0, p1, p2, p3⟩ := (unhide H4).2.2.four
      have n0 := cell_later p0
      have n1 := cell_later p1
      have n2 := cell_later p2
      have n3 := cell_later p3
      have hne := Later.some w4
      have hkn : (k : Int) < (L.length : Int) := by omega
      have ee : (absE L[k]).1 = L[k].1 ∧ (absE L[k]).2.1 = L[k].2.1 := ⟨rfl, rfl⟩
      rw [ee.1, ee.2] at HE
      generalize L[k].1 = W at *
      generalize L[k].2.1 = H at *
      generalize L[k].2.2.2.length = bn at *
      clear c0 c1 c2 hr eb hget ee p0 p1 p2 p3 hh
      go_wp2
      refine wp_region_later (by kernel_rfl) (by kernel_rfl) ?_
      repeat (go_big_quiet_step (first | (go_at_call 47; refine calls_later (lies_any W H X Y pw ph _ bo bn bcap rfl (by omega) (by omega) _))))
      refine wpQuiet_nil ?_
      rintro _ ⟨x, rfl⟩
      have hx5 := hide ((unhide H4).1.trans x.ext)
      generalize x.w = w5 at hx5 ⊢
      cases hin : inP W H X Y pw ph with
      | false =>
        have E := hide (show pieceE I k X Y pw ph = 2 by rw [unhide HE, if_pos hin])
        clear hin HE
        go_wp2
        go_ret
        rw [unhide E]
        exact ⟨rfl, unhide hx5⟩
      | true =>
        have E := hide (show pieceE I k X Y pw ph = 0 by rw [unhide HE, if_neg (by rw [hin]; simp)])
        clear hin HE
        go_wp2
        go_ret
        rw [unhide E]
        exact ⟨rfl, unhide hx5⟩

set_option maxRecDepth 10000 in
set_option maxHeartbeats 1000000 in
theorem get_bad (h : LR w v L) (hL : L.length ≤ 1000) (hA : I.L = absL L) (lv X Y pw ph : Int) (hE : pieceE I lv X Y pw ph ≠ 0) :
    Calls Try.prog 13 #[.agg #[.int .i64 I.f, v, .int .i64 I.ws, .int .i64 I.wt, .int .i64 I.mn, .int .i64 I.mg], .int .i64 lv, .agg #[.int .i64 X, .int .i64 Y, .int .i64 pw, .int .i64 ph]] w fun e w' => e = .returned (.tuple #[.slice none 0 0, .int .i64 (pieceE I lv X Y pw ph)]) ∧ Ext w w' := by
  obtain ⟨ao, cap, rfl, hao, hlc, hcm, _⟩ := h.shape
  have HH := hide h
  have HA := hide hA
  have hX1 := ((Ext.refl w).alloc (.cells #[.int .i64 I.f, .slice ao L.length cap, .int .i64 I.ws, .int .i64 I.wt, .int .i64 I.mn, .int .i64 I.mg] 24)).alloc (.cells #[.int .i64 X, .int .i64 Y, .int .i64 pw, .int .i64 ph] 26)
  have H1 := hide hX1
  have hne : (pieceE I lv X Y pw ph != 0) = true := by rw [bne_iff_ne]; exact hE
  clear h hA hao hcm hX1 hE
  go_enter Try.func13, Try.ntmps13
  go_wp2_with fail
  refine (pieceRefusal_any (I := I) ((unhide HH).ext (unhide H1)) hL (unhide HA) lv X Y pw ph).mono ?_
  rintro e w2 ⟨rfl, hx2⟩
  have HX := hide ((unhide H1).trans hx2)
  clear hx2
  go_wp2
  go_ret2
  exact ⟨rfl, unhide HX⟩
end
theorem pieceE_zero {I : Img} {lv X Y pw ph : Int} (h : pieceE I lv X Y pw ph = 0) : okB (sizI I.f) I = true ∧ hasB I.L lv = true ∧ inP (I.L.getD lv.toNat noLev).1 (I.L.getD lv.toNat noLev).2.1 X Y pw ph = true := by
  unfold pieceE at h
  cases h1 : okB (sizI I.f) I with
  | false => rw [if_pos h1] at h; simp at h
  | true =>
    rw [if_neg (by rw [h1]; simp)] at h
    cases h2 : hasB I.L lv with
    | false => rw [if_pos h2] at h; simp at h
    | true =>
      rw [if_neg (by rw [h2]; simp)] at h
      cases h3 : inP (I.L.getD lv.toNat noLev).1 (I.L.getD lv.toNat noLev).2.1 X Y pw ph with
      | false => rw [if_pos h3] at h; simp at h
      | true => exact ⟨rfl, rfl, rfl⟩
theorem inP_nat {W H X Y pw ph : Int} (h : inP W H X Y pw ph = true) (hW : 0 ≤ W) (hH : 0 ≤ H) : ∃ a b c d e f : Nat, W = a ∧ H = b ∧ X = c ∧ Y = d ∧ pw = e ∧ ph = f ∧ c + e ≤ a ∧ d + f ≤ b := by
  unfold inP at h
  simp only [Bool.and_eq_true, decide_eq_true_eq] at h
  exact ⟨W.toNat, H.toNat, X.toNat, Y.toNat, pw.toNat, ph.toNat, by omega, by omega, by omega, by omega, by omega, by omega, by omega, by omega⟩
end Go.Proofs.Ytpjapdifmfpcnaa
