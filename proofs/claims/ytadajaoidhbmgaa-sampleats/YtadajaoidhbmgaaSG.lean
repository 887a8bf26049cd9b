/-
  Colours: the walks of levelOf, asked and At.
-/
import Derived.Test.YtadajaoidhbmgaaSL
namespace Go.Proofs.Ytadajaoidhbmgaa
open Go.RowKit
set_option linter.unusedVariables false
set_option linter.unusedSimpArgs false

section
variable {w : World} {v : Value} {L : List Ent} {I : Img}
set_option maxRecDepth 10000 in
set_option maxHeartbeats 1000000 in
theorem levelOf_any (h : LR w v L) (hA : I.L = absL L) (hok : okB (sizI I.f) I = true) (h0 : hasB I.L 0 = true) (lod : Int) (hl : I32 lod) :
    Calls Try.prog 44 #[.agg #[.int .i64 I.f, v, .int .i64 I.ws, .int .i64 I.wt, .int .i64 I.mn, .int .i64 I.mg], .int .i32 lod] w fun e w' => e = .returned (.int .i64 (lodI I lod)) ∧ Ext w w' := by
  obtain ⟨k, hk, e0, hlv, hlk⟩ := lv_open hA hok h0
  obtain rfl : k = 0 := by omega
  obtain ⟨ao, cap, rfl, hao, hlc, hcm, _⟩ := h.shape
  have hcm2 : cap ≤ 9223372036854775807 := by unfold maxLen at hcm; omega
  have HE : Hid (lodI I lod = wrapI 2 ((lod + 32768) / 65536) (cntI L[0].1 L[0].2.1)) := by
    show _ = _
    unfold lodI
    rw [hlv]
  have hx1 := (Ext.refl w).alloc (.cells #[.int .i64 I.f, .slice ao L.length cap, .int .i64 I.ws, .int .i64 I.wt, .int .i64 I.mn, .int .i64 I.mg] 24)
  obtain ⟨b, off, bo, bcap, rfl, eb, c0, c1, c2, hr⟩ := (h.ext hx1).at 0 hk
  have hkn : (0 : Int) < (L.length : Int) := by omega
  obtain ⟨l1, l2⟩ := hl
  have HX := hide (hx1.alloc (.cells #[.int .i64 L[0].1, .int .i64 L[0].2.1, .slice bo L[0].2.2.2.length bcap] 46))
  generalize L[0].1 = W at *
  generalize L[0].2.1 = H at *
  generalize L[0].2.2.2 = bs at *
  simp only [Nat.zero_mul, Nat.add_zero] at c0 c1 c2
  clear h hA hok h0 hlv hlk hao hcm eb hr e0
  go_enter Try.func44, Try.ntmps44
  go_wp2_with fail
  refine (count_any W H _).mono ?_
  rintro e w3 ⟨rfl, rfl⟩
  go_wp2_with fail
  refine (wrap_any _ _ _ _).mono ?_
  rintro e w3 ⟨rfl, rfl⟩
  go_wp2
  go_ret
  rw [unhide HE]
  exact ⟨rfl, unhide HX⟩

set_option maxRecDepth 10000 in
set_option maxHeartbeats 1000000 in
theorem asked_any (h : LR w v L) (hA : I.L = absL L) (hc : cmpB I = true) (lod : Int) (hl : I32 lod) :
    Calls Try.prog 29 #[.agg #[.int .i64 I.f, v, .int .i64 I.ws, .int .i64 I.wt, .int .i64 I.mn, .int .i64 I.mg], .int .i32 lod] w fun e w' => e = .returned (.tuple #[.int .i64 (askL I lod), .int .i64 (askM I lod)]) ∧ Ext w w' := by
  obtain ⟨hok, h0⟩ := cmp_ok hc
  obtain ⟨ao, cap, rfl, hao, hlc, hcm, _⟩ := h.shape
  have hx1 := (Ext.refl w).alloc (.cells #[.int .i64 I.f, .slice ao L.length cap, .int .i64 I.ws, .int .i64 I.wt, .int .i64 I.mn, .int .i64 I.mg] 24)
  have hB := Blk.new w #[.int .i64 I.f, .slice ao L.length cap, .int .i64 I.ws, .int .i64 I.wt, .int .i64 I.mn, .int .i64 I.mg] 24
  obtain ⟨q0, q1, q2, q3, q4, q5⟩ := hB.six
  have HX := hide hx1
  have HL := hide (levelOf_any (h.ext hx1) hA hok h0 lod hl)
  obtain ⟨l1, l2⟩ := hl
  clear h hA hc hok h0 hao hcm hB hx1
  by_cases a1 : lod ≤ 0
  · have E1 := hide (show askL I lod = 0 by unfold askL; rw [if_pos a1])
    have E2 := hide (show askM I lod = I.mg by unfold askM; rw [if_pos a1])
    go_enter Try.func29, Try.ntmps29
    go_upto_region 2 with fail
    go_quiet (fail)
    go_wp2
    refine bodyPost_ret (v := .tuple #[.int .i64 0, .int .i64 I.mg]) (by simp [results, Try.results29, go_sem]) rfl ⟨by rw [unhide E1, unhide E2], (unhide HX).drewN _⟩
  by_cases a3 : I.mn = 3
  · have E1 := hide (show askL I lod = lodI I lod by unfold askL; rw [if_neg a1, if_pos (.inl a3)])
    have E2 := hide (show askM I lod = 1 by unfold askM; rw [if_neg a1, if_pos a3])
    have d3 : (I.mn == 3) = true := by rw [beq_iff_eq]; exact a3
    clear a3
    go_enter Try.func29, Try.ntmps29
    go_wp2_with fail
    refine (unhide HL).mono ?_
    rintro e w3 ⟨rfl, hx3⟩
    go_wp2
    refine bodyPost_ret (v := .tuple #[.int .i64 (lodI I lod), .int .i64 1]) (by simp [results, Try.results29, go_sem]) rfl ⟨by rw [unhide E1, unhide E2], (unhide HX).trans hx3⟩
  have d3 : (I.mn == 3) = false := by rw [beq_eq_false_iff_ne]; exact a3
  by_cases a4 : I.mn = 4
  · have E1 := hide (show askL I lod = lodI I lod by unfold askL; rw [if_neg a1, if_pos (.inr a4)])
    have E2 := hide (show askM I lod = 2 by unfold askM; rw [if_neg a1, if_neg a3, if_pos a4])
    have d4 : (I.mn == 4) = true := by rw [beq_iff_eq]; exact a4
    clear a3 a4
    go_enter Try.func29, Try.ntmps29
    go_wp2_with fail
    refine (unhide HL).mono ?_
    rintro e w3 ⟨rfl, hx3⟩
    go_wp2
    refine bodyPost_ret (v := .tuple #[.int .i64 (lodI I lod), .int .i64 2]) (by simp [results, Try.results29, go_sem]) rfl ⟨by rw [unhide E1, unhide E2], (unhide HX).trans hx3⟩
  have d4 : (I.mn == 4) = false := by rw [beq_eq_false_iff_ne]; exact a4
  have E1 := hide (show askL I lod = 0 by unfold askL; rw [if_neg a1, if_neg (by omega)])
  have E2 := hide (show askM I lod = I.mn by unfold askM; rw [if_neg a1, if_neg a3, if_neg a4])
  clear a3 a4 HL
  go_enter Try.func29, Try.ntmps29
  go_upto_region 8 with fail
  go_quiet (fail)
  go_wp2
  refine bodyPost_ret (v := .tuple #[.int .i64 0, .int .i64 I.mn]) (by simp [results, Try.results29, go_sem]) rfl ⟨by rw [unhide E1, unhide E2], (unhide HX).drewN _⟩

/-- What At answers. -/
def atE (I : Img) : Int := if okB (sizI I.f) I = false then 180 else 0
def atV (I : Img) (u q lod : Int) : Nat → Int := if okB (sizI I.f) I = false then nul else atI I u q lod
set_option maxRecDepth 10000 in
set_option maxHeartbeats 4000000 in
theorem at_any (h : LR w v L) (hL : L.length ≤ 4000000000000) (hA : I.L = absL L) (hby : ∀ p ∈ L, Byt p.2.2.2) (u q lod : Int) (hu : I32 u) (hq : I32 q) (hl : I32 lod) :
    Calls Try.prog 13 #[.agg #[.int .i64 I.f, v, .int .i64 I.ws, .int .i64 I.wt, .int .i64 I.mn, .int .i64 I.mg], .int .i32 u, .int .i32 q, .int .i32 lod] w fun e w' => e = .returned (.tuple #[.agg #[.int .i32 ((atV I u q lod) 0), .int .i32 ((atV I u q lod) 1), .int .i32 ((atV I u q lod) 2), .int .i32 ((atV I u q lod) 3)], .int .i64 (atE I)]) ∧ Ext w w' := by
  obtain ⟨ao, cap, rfl, hao, hlc, hcm, _⟩ := h.shape
  have H1 := hide (And.intro (((Ext.refl w).alloc (.cells #[.int .i64 I.f, .slice ao L.length cap, .int .i64 I.ws, .int .i64 I.wt, .int .i64 I.mn, .int .i64 I.mg] 24)).alloc (.cells #[.int .i32 0, .int .i32 0, .int .i32 0, .int .i32 0] 30)) (And.intro ((Blk.new w #[.int .i64 I.f, .slice ao L.length cap, .int .i64 I.ws, .int .i64 I.wt, .int .i64 I.mn, .int .i64 I.mg] 24).alloc (.cells #[.int .i32 0, .int .i32 0, .int .i32 0, .int .i32 0] 30)) (show Blk ((w.alloc (.cells #[.int .i64 I.f, .slice ao L.length cap, .int .i64 I.ws, .int .i64 I.wt, .int .i64 I.mn, .int .i64 I.mg] 24)).alloc (.cells #[.int .i32 0, .int .i32 0, .int .i32 0, .int .i32 0] 30)) (w.heap.size + 1) #[.int .i32 0, .int .i32 0, .int .i32 0, .int .i32 0] 30 from Blk.at (by simp))))
  have HH := hide h
  have HA := hide hA
  have HB := hide hby
  have HU := hide (And.intro hu (And.intro hq hl))
  clear h hA hby hao hcm hu hq hl
  go_enter Try.func13, Try.ntmps13
  go_wp2_with fail
  refine (check_any (I := I) ((unhide HH).ext (unhide H1).1) hL (unhide HA)).mono ?_
  rintro e w3 ⟨rfl, hx3⟩
  have H3 := hide (And.intro ((unhide H1).1.trans hx3) (And.intro ((unhide H1).2.1.ext hx3) ((unhide H1).2.2.ext hx3)))
  clear H1 hx3
  obtain ⟨q0, q1, q2, q3, q4, q5⟩ := (unhide H3).2.1.six
  cases hok : okB (sizI I.f) I with
  | false =>
    have c1 := chkE_no (I := I) (by rw [hok]; simp)
    have E1 := hide (show atE I = 180 by unfold atE; rw [if_pos hok])
    have E2 := hide (show atV I u q lod = nul by unfold atV; rw [if_pos hok])
    rw [c1]
    clear c1 hok
    have hR := (unhide H3).2.2
    obtain ⟨r0, r1, r2, r3⟩ := hR.four
    obtain ⟨f0, f1, f2, f3, _⟩ := hR.frees
    have H9 := hide (And.intro (hR.put4 (.int .i32 0) (.int .i32 0) (.int .i32 0) (.int .i32 0)) (ext_put4 (b := w.heap.size + 1) (a0 := .int .i32 0) (a1 := .int .i32 0) (a2 := .int .i32 0) (a3 := .int .i32 0) (unhide H3).1 (by omega)))
    clear hR
    go_wp2
    obtain ⟨t0, t1, t2, t3⟩ := (unhide H9).1.four
    refine bodyPost_ret (v := .tuple #[.agg #[.int .i32 0, .int .i32 0, .int .i32 0, .int .i32 0], .int .i64 180]) (by simp [results, Try.results13, go_sem, t0, t1, t2, t3]) rfl ⟨?_, (unhide H9).2⟩
    rw [unhide E1, unhide E2]
    rfl
  | true =>
  have c1 := chkE_yes (I := I) hok
  have E1 := hide (show atE I = 0 by unfold atE; rw [hok, if_neg (by simp)])
  have E2 := hide (show atV I u q lod = atI I u q lod by unfold atV; rw [hok, if_neg (by simp)])
  have HOK := hide hok
  have hL7 : L.length ≤ 7 := by
    have := (okB_iff.1 hok).1
    rw [unhide HA, absL_len] at this
    exact this
  rw [c1]
  clear c1 hok
  go_wp2_with fail
  refine (complete_any (I := I) ((unhide HH).ext (unhide H3).1) (by omega) (unhide HA)).mono ?_
  rintro e w4 ⟨rfl, hx4⟩
  have H4 := hide (And.intro ((unhide H3).1.trans hx4) (And.intro ((unhide H3).2.1.ext hx4) ((unhide H3).2.2.ext hx4)))
  clear H3 hx4 q0 q1 q2 q3 q4 q5
  obtain ⟨q0, q1, q2, q3, q4, q5⟩ := (unhide H4).2.1.six
  cases hc : cmpB I with
  | false =>
    have E3 := hide (show atI I u q lod = blk0 by unfold atI; rw [if_pos hc])
    clear hc
    have hR := (unhide H4).2.2
    obtain ⟨r0, r1, r2, r3⟩ := hR.four
    obtain ⟨f0, f1, f2, f3, _⟩ := hR.frees
    have H9 := hide (And.intro (hR.put4 (.int .i32 0) (.int .i32 0) (.int .i32 0) (.int .i32 65536)) (ext_put4 (b := w.heap.size + 1) (a0 := .int .i32 0) (a1 := .int .i32 0) (a2 := .int .i32 0) (a3 := .int .i32 65536) (unhide H4).1 (by omega)))
    clear hR
    go_wp2
    obtain ⟨t0, t1, t2, t3⟩ := (unhide H9).1.four
    refine bodyPost_ret (v := .tuple #[.agg #[.int .i32 0, .int .i32 0, .int .i32 0, .int .i32 65536], .int .i64 0]) (by simp [results, Try.results13, go_sem, t0, t1, t2, t3]) rfl ⟨?_, (unhide H9).2⟩
    rw [unhide E1, unhide E2, unhide E3]
    rfl
  | true =>
  have HC := hide hc
  have E3 := hide (show atI I u q lod = if askM I lod = 2 then lnI I (levAt I (askL I lod)) u q else nrI I (levAt I (askL I lod)) u q by unfold atI; rw [hc, if_neg (by simp)])
  clear hc
  have HRF : Hid (rfE I (askL I lod) = 0) := rf_yes (unhide HOK) (ask_has (unhide HC) lod)
  go_wp2_with fail
  refine (asked_any (I := I) ((unhide HH).ext (unhide H4).1) (unhide HA) (unhide HC) lod (unhide HU).2.2).mono ?_
  rintro e w5 ⟨rfl, hx5⟩
  have H5 := hide (And.intro ((unhide H4).1.trans hx5) (And.intro ((unhide H4).2.1.ext hx5) ((unhide H4).2.2.ext hx5)))
  clear H4 hx5 q0 q1 q2 q3 q4 q5
  obtain ⟨q0, q1, q2, q3, q4, q5⟩ := (unhide H5).2.1.six
  by_cases m2 : askM I lod = 2
  · rw [if_pos m2] at E3
    have d2 : (askM I lod == 2) = true := by rw [beq_iff_eq]; exact m2
    clear m2
    generalize askM I lod = am at *
    go_wp2_with fail
    refine (linear_good (I := I) ((unhide HH).ext (unhide H5).1) hL (unhide HA) (unhide HB) _ u q (unhide HU).1 (unhide HU).2.1 (unhide HRF)).mono ?_
    rintro e w6 ⟨rfl, hx6⟩
    generalize lnI I (levAt I (askL I lod)) u q = V at *
    have hR := (unhide H5).2.2.ext hx6
    obtain ⟨r0, r1, r2, r3⟩ := hR.four
    obtain ⟨f0, f1, f2, f3, _⟩ := hR.frees
    have H9 := hide (And.intro (hR.put4 (.int .i32 (V 0)) (.int .i32 (V 1)) (.int .i32 (V 2)) (.int .i32 (V 3))) (ext_put4 (b := w.heap.size + 1) (a0 := .int .i32 (V 0)) (a1 := .int .i32 (V 1)) (a2 := .int .i32 (V 2)) (a3 := .int .i32 (V 3)) ((unhide H5).1.trans hx6) (by omega)))
    clear hR hx6
    go_wp2
    obtain ⟨t0, t1, t2, t3⟩ := (unhide H9).1.four
    refine bodyPost_ret (v := .tuple #[.agg #[.int .i32 (V 0), .int .i32 (V 1), .int .i32 (V 2), .int .i32 (V 3)], .int .i64 0]) (by simp [results, Try.results13, go_sem, t0, t1, t2, t3]) rfl ⟨?_, (unhide H9).2⟩
    rw [unhide E1, unhide E2, unhide E3]
  · rw [if_neg m2] at E3
    have d2 : (askM I lod == 2) = false := by rw [beq_eq_false_iff_ne]; exact m2
    clear m2
    generalize askM I lod = am at *
    go_wp2_with fail
    refine (nearest_good (I := I) ((unhide HH).ext (unhide H5).1) hL (unhide HA) (unhide HB) _ u q (unhide HU).1 (unhide HU).2.1 (unhide HRF)).mono ?_
    rintro e w6 ⟨rfl, hx6⟩
    generalize nrI I (levAt I (askL I lod)) u q = V at *
    have hR := (unhide H5).2.2.ext hx6
    obtain ⟨r0, r1, r2, r3⟩ := hR.four
    obtain ⟨f0, f1, f2, f3, _⟩ := hR.frees
    have H9 := hide (And.intro (hR.put4 (.int .i32 (V 0)) (.int .i32 (V 1)) (.int .i32 (V 2)) (.int .i32 (V 3))) (ext_put4 (b := w.heap.size + 1) (a0 := .int .i32 (V 0)) (a1 := .int .i32 (V 1)) (a2 := .int .i32 (V 2)) (a3 := .int .i32 (V 3)) ((unhide H5).1.trans hx6) (by omega)))
    clear hR hx6
    go_wp2
    obtain ⟨t0, t1, t2, t3⟩ := (unhide H9).1.four
    refine bodyPost_ret (v := .tuple #[.agg #[.int .i32 (V 0), .int .i32 (V 1), .int .i32 (V 2), .int .i32 (V 3)], .int .i64 0]) (by simp [results, Try.results13, go_sem, t0, t1, t2, t3]) rfl ⟨?_, (unhide H9).2⟩
    rw [unhide E1, unhide E2, unhide E3]
end
end Go.Proofs.Ytadajaoidhbmgaa
