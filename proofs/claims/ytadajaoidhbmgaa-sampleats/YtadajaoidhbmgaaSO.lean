/-
  Colours: the document's At.
-/
import Derived.Test.YtadajaoidhbmgaaSK
import Derived.Test.YtadajaoidhbmgaaSM
import Derived.Test.YtadajaoidhbmgaaRH
namespace Go.Proofs.Ytadajaoidhbmgaa
open Go.RowKit
set_option linter.unusedVariables false
set_option linter.unusedSimpArgs false

section
variable {w : World} {v : Value} {L : List Ent} {I : Img}
theorem at_lod0 {u q lod : Int} (hc : cmpB I = true) (h : lod ≤ 0) : atI I u q lod = if I.mg = 2 then lnI I (levAt I 0) u q else nrI I (levAt I 0) u q := by
  unfold atI askM askL
  rw [hc, if_neg (by simp), if_pos h, if_pos h]
theorem at_lod {u q lod : Int} (hc : cmpB I = true) (h : ¬ lod ≤ 0) : (I.mn = 1 → atI I u q lod = nrI I (levAt I 0) u q) ∧ (I.mn = 2 → atI I u q lod = lnI I (levAt I 0) u q) ∧ (I.mn = 3 → atI I u q lod = nrI I (levAt I (lodI I lod)) u q) ∧ (I.mn = 4 → atI I u q lod = lnI I (levAt I (lodI I lod)) u q) := by
  unfold atI askM askL
  rw [hc, if_neg (by simp)]
  refine ⟨fun e => ?_, fun e => ?_, fun e => ?_, fun e => ?_⟩ <;> simp [h, e]
theorem lod_clamp {I : Img} {lod : Int} (h0 : LvOk I (levAt I 0)) (h : ¬ lod ≤ 0) : lodI I lod = if cntI (levAt I 0).1 (levAt I 0).2.1 - 1 < (lod + 32768) / 65536 then cntI (levAt I 0).1 (levAt I 0).2.1 - 1 else (lod + 32768) / 65536 := by
  have e : cntI (levAt I 0).1 (levAt I 0).2.1 = (lgs (levAt I 0).1 (levAt I 0).2.1 : Int) + 1 := by
    unfold cntI
    rw [if_pos ⟨sideB_iff.2 h0.w, sideB_iff.2 h0.h⟩]
  have h6 : lgs (levAt I 0).1 (levAt I 0).2.1 ≤ 6 := lg_le _
  unfold lodI wrapI
  rw [e, if_neg (by omega), if_neg (by decide), if_pos rfl]
  split <;> omega
theorem val_four {n : Int} (h : valB 3 n = true) : 1 ≤ n ∧ n ≤ 4 := by
  unfold valB at h
  rw [if_neg (by decide), if_pos rfl] at h
  exact of_decide_eq_true h
theorem val_two {n : Int} (h : valB 4 n = true) : n = 1 ∨ n = 2 := by
  unfold valB at h
  rw [if_neg (by decide), if_neg (by decide), if_pos rfl] at h
  exact of_decide_eq_true h

set_option maxRecDepth 10000 in
set_option maxHeartbeats 4000000 in
theorem refAt_any (h : LR w v L) (hA : I.L = absL L) (hby : ∀ p ∈ L, Byt p.2.2.2) (hok : okB (sizI I.f) I = true) (u q lod : Int) (hu : I32 u) (hq : I32 q) (hl : I32 lod) :
    Calls Try.prog 14 #[.agg #[.int .i64 I.f, v, .int .i64 I.ws, .int .i64 I.wt, .int .i64 I.mn, .int .i64 I.mg], .int .i32 u, .int .i32 q, .int .i32 lod] w fun e w' => e = .returned (.agg #[.int .i32 ((atI I u q lod) 0), .int .i32 ((atI I u q lod) 1), .int .i32 ((atI I u q lod) 2), .int .i32 ((atI I u q lod) 3)]) ∧ Ext w w' := by
  obtain ⟨ao, cap, rfl, hao, hlc, hcm, _⟩ := h.shape
  have hcm2 : cap ≤ 9223372036854775807 := by unfold maxLen at hcm; omega
  have H1 := hide (And.intro (((Ext.refl w).alloc (.cells #[.int .i64 I.f, .slice ao L.length cap, .int .i64 I.ws, .int .i64 I.wt, .int .i64 I.mn, .int .i64 I.mg] 24)).alloc (.cells #[.int .i32 0, .int .i32 0, .int .i32 0, .int .i32 0] 30)) (And.intro ((Blk.new w #[.int .i64 I.f, .slice ao L.length cap, .int .i64 I.ws, .int .i64 I.wt, .int .i64 I.mn, .int .i64 I.mg] 24).alloc (.cells #[.int .i32 0, .int .i32 0, .int .i32 0, .int .i32 0] 30)) (show Blk ((w.alloc (.cells #[.int .i64 I.f, .slice ao L.length cap, .int .i64 I.ws, .int .i64 I.wt, .int .i64 I.mn, .int .i64 I.mg] 24)).alloc (.cells #[.int .i32 0, .int .i32 0, .int .i32 0, .int .i32 0] 30)) (w.heap.size + 1) #[.int .i32 0, .int .i32 0, .int .i32 0, .int .i32 0] 30 from Blk.at (by simp))))
  have HH := hide h
  have HA := hide hA
  have HB := hide hby
  have HU := hide (And.intro hu (And.intro hq hl))
  have HOK := hide hok
  obtain ⟨lo1, lo2⟩ := hl
  clear h hA hby hao hcm hu hq hok
  go_enter Try.func14, Try.ntmps14
  go_wp2_with fail
  refine (refComplete_any (I := I) ((unhide HH).ext (unhide H1).1) (unhide HA)).mono ?_
  rintro e w3 ⟨rfl, hx3⟩
  have H3 := hide (And.intro ((unhide H1).1.trans hx3) (And.intro ((unhide H1).2.1.ext hx3) ((unhide H1).2.2.ext hx3)))
  clear H1 hx3
  obtain ⟨q0, q1, q2, q3, q4, q5⟩ := (unhide H3).2.1.six
  cases hc : cmpB I with
  | false =>
    have E := hide (show atI I u q lod = blk0 by unfold atI; rw [if_pos hc])
    clear hc
    have hR := (unhide H3).2.2
    obtain ⟨r0, r1, r2, r3⟩ := hR.four
    obtain ⟨f0, f1, f2, f3, _⟩ := hR.frees
    have H9 := hide (And.intro (hR.put4 (.int .i32 0) (.int .i32 0) (.int .i32 0) (.int .i32 65536)) (ext_put4 (b := w.heap.size + 1) (a0 := .int .i32 0) (a1 := .int .i32 0) (a2 := .int .i32 0) (a3 := .int .i32 65536) (unhide H3).1 (by omega)))
    clear hR
    go_wp2
    obtain ⟨t0, t1, t2, t3⟩ := (unhide H9).1.four
    refine bodyPost_ret (v := .agg #[.int .i32 0, .int .i32 0, .int .i32 0, .int .i32 65536]) (by simp [results, Try.results14, go_sem, t0, t1, t2, t3]) rfl ⟨?_, (unhide H9).2⟩
    rw [unhide E]
    rfl
  | true =>
  have hh0 := (cmp_ok hc).2
  have HRZ : Hid (rfE I 0 = 0) := rf_yes (unhide HOK) hh0
  have hlk0 := lv_ok (unhide HOK) hh0
  by_cases a1 : lod ≤ 0
  · have hmg := val_two (okB_iff.1 (unhide HOK)).2.2.2.2.2.2.2
    have EA := hide (at_lod0 (u := u) (q := q) hc a1)
    clear hc hlk0 hh0
    have HRF := HRZ
    by_cases m1 : I.mg = 1
    · have E := hide (show atI I u q lod = nrI I (levAt I 0) u q by rw [unhide EA, if_neg (by omega)])
      have d1 : (I.mg == 1) = true := by rw [beq_iff_eq]; exact m1
      clear m1 EA hmg
      go_wp2_with fail
      refine (refNearest_any (I := I) ((unhide HH).ext (unhide H3).1) (unhide HA) (unhide HB) 0 u q (unhide HU).1 (unhide HU).2.1 (unhide HRF)).mono ?_
      rintro e w6 ⟨rfl, hx6⟩
      generalize nrI I (levAt I 0) u q = V at *
      have hR := (unhide H3).2.2.ext hx6
      obtain ⟨r0, r1, r2, r3⟩ := hR.four
      obtain ⟨f0, f1, f2, f3, _⟩ := hR.frees
      have H9 := hide (And.intro (hR.put4 (.int .i32 (V 0)) (.int .i32 (V 1)) (.int .i32 (V 2)) (.int .i32 (V 3))) (ext_put4 (b := w.heap.size + 1) (a0 := .int .i32 (V 0)) (a1 := .int .i32 (V 1)) (a2 := .int .i32 (V 2)) (a3 := .int .i32 (V 3)) ((unhide H3).1.trans hx6) (by omega)))
      clear hR hx6
      go_wp2
      obtain ⟨t0, t1, t2, t3⟩ := (unhide H9).1.four
      refine bodyPost_ret (v := .agg #[.int .i32 (V 0), .int .i32 (V 1), .int .i32 (V 2), .int .i32 (V 3)]) (by simp [results, Try.results14, go_sem, t0, t1, t2, t3]) rfl ⟨by rw [unhide E], (unhide H9).2⟩
    · have E := hide (show atI I u q lod = lnI I (levAt I 0) u q by rw [unhide EA, if_pos (by omega)])
      have d1 : (I.mg == 1) = false := by rw [beq_eq_false_iff_ne]; exact m1
      clear m1 EA hmg
      go_wp2_with fail
      refine (refLinear_any (I := I) ((unhide HH).ext (unhide H3).1) (unhide HA) (unhide HB) 0 u q (unhide HU).1 (unhide HU).2.1 (unhide HRF)).mono ?_
      rintro e w6 ⟨rfl, hx6⟩
      generalize lnI I (levAt I 0) u q = V at *
      have hR := (unhide H3).2.2.ext hx6
      obtain ⟨r0, r1, r2, r3⟩ := hR.four
      obtain ⟨f0, f1, f2, f3, _⟩ := hR.frees
      have H9 := hide (And.intro (hR.put4 (.int .i32 (V 0)) (.int .i32 (V 1)) (.int .i32 (V 2)) (.int .i32 (V 3))) (ext_put4 (b := w.heap.size + 1) (a0 := .int .i32 (V 0)) (a1 := .int .i32 (V 1)) (a2 := .int .i32 (V 2)) (a3 := .int .i32 (V 3)) ((unhide H3).1.trans hx6) (by omega)))
      clear hR hx6
      go_wp2
      obtain ⟨t0, t1, t2, t3⟩ := (unhide H9).1.four
      refine bodyPost_ret (v := .agg #[.int .i32 (V 0), .int .i32 (V 1), .int .i32 (V 2), .int .i32 (V 3)]) (by simp [results, Try.results14, go_sem, t0, t1, t2, t3]) rfl ⟨by rw [unhide E], (unhide H9).2⟩
  have HMN : Hid (1 ≤ I.mn ∧ I.mn ≤ 4) := val_four (okB_iff.1 (unhide HOK)).2.2.2.2.2.2.1
  obtain ⟨n1, n2, n3, n4⟩ := at_lod (u := u) (q := q) hc a1
  have HN1 := hide n1
  have HN2 := hide n2
  have HN3 := hide n3
  have HN4 := hide n4
  have HRL : Hid (I.mn = 3 ∨ I.mn = 4 → rfE I (lodI I lod) = 0) := fun hm => by
    have h9 := ask_has hc lod
    unfold askL at h9
    rw [if_neg a1, if_pos hm] at h9
    exact rf_yes (unhide HOK) h9
  have HLC := hide (lod_clamp (I := I) hlk0 a1)
  obtain ⟨k, hk, e0, hlv, hlk⟩ := lv_open (unhide HA) (unhide HOK) hh0
  obtain rfl : k = 0 := by omega
  rw [hlv] at HLC
  obtain ⟨b, off, bo, bcap, rfl, eb, c0, c1, c2, hr⟩ := ((unhide HH).ext (unhide H3).1).at 0 hk
  have hkn : (0 : Int) < (L.length : Int) := by omega
  have hcb : 0 ≤ cntI L[0].1 L[0].2.1 ∧ cntI L[0].1 L[0].2.1 ≤ 7 := by
    unfold cntI
    have h6 : lgs L[0].1 L[0].2.1 ≤ 6 := lg_le _
    split <;> omega
  have HCT : Hid (∀ wx, Calls Try.prog 31 #[.int .i64 L[0].1, .int .i64 L[0].2.1] wx fun e w' => e = .returned (.int .i64 (cntI L[0].1 L[0].2.1)) ∧ w' = wx) := fun wx => refCount_any _ _ wx
  simp only [Nat.zero_mul, Nat.add_zero] at c0 c1 c2
  generalize cntI L[0].1 L[0].2.1 = ct at *
  generalize L[0].1 = W at *
  generalize L[0].2.1 = H at *
  clear hc hlk0 hh0 hlv hlk e0 eb c2 hr n1 n2 n3 n4
  have gct : IntKind.i64.wrap (ct - 1) = ct - 1 := by simp [IntKind.wrap, IntKind.bits, IntKind.signed]; omega
  go_wp2_with fail
  refine (down_any (lod + 32768) 65536 _ ⟨by omega, by omega⟩ ⟨by omega, by omega⟩).mono ?_
  rintro e w3' ⟨rfl, rfl⟩
  go_upto_region 8 with fail
  go_quiet (first | (go_at_call 31; refine Calls.quiet_of_same (unhide HCT _)))
  have H4 := hide (And.intro ((unhide H3).1.drewN nq) (And.intro ((unhide H3).2.1.drewN nq) ((unhide H3).2.2.drewN nq)))
  clear q0 q1 q2 q3 q4 q5 c0 c1 H3 HCT gct
  go_upto_region 9 with fail
  generalize w3'.drewN nq = w4 at H4 ⊢
  have H3 := H4
  clear H4
  obtain ⟨q0, q1, q2, q3, q4, q5⟩ := (unhide H3).2.1.six
  have hxb : 0 ≤ (lod + 32768) / 65536 ∧ (lod + 32768) / 65536 ≤ 40000 := by omega
  generalize (lod + 32768) / 65536 = x at *
  by_cases hgt : ct - 1 < x
  · have HLV : Hid (lodI I lod = ct - 1) := by show _ = _; rw [unhide HLC, if_pos hgt]
    clear HLC
    by_cases m1 : I.mn = 1
    · have E := hide (unhide HN1 m1)
      have HRF := hide (unhide HRZ)
      have d1 : (I.mn == 1) = true := by rw [beq_iff_eq]; exact m1
      clear m1
      go_wp2_with fail
      refine (refNearest_any (I := I) ((unhide HH).ext (unhide H3).1) (unhide HA) (unhide HB) 0 u q (unhide HU).1 (unhide HU).2.1 (unhide HRF)).mono ?_
      rintro e w6 ⟨rfl, hx6⟩
      generalize nrI I (levAt I 0) u q = V at *
      have hR := (unhide H3).2.2.ext hx6
      obtain ⟨r0, r1, r2, r3⟩ := hR.four
      obtain ⟨f0, f1, f2, f3, _⟩ := hR.frees
      have H9 := hide (And.intro (hR.put4 (.int .i32 (V 0)) (.int .i32 (V 1)) (.int .i32 (V 2)) (.int .i32 (V 3))) (ext_put4 (b := w.heap.size + 1) (a0 := .int .i32 (V 0)) (a1 := .int .i32 (V 1)) (a2 := .int .i32 (V 2)) (a3 := .int .i32 (V 3)) ((unhide H3).1.trans hx6) (by omega)))
      clear hR hx6
      go_wp2
      obtain ⟨t0, t1, t2, t3⟩ := (unhide H9).1.four
      refine bodyPost_ret (v := .agg #[.int .i32 (V 0), .int .i32 (V 1), .int .i32 (V 2), .int .i32 (V 3)]) (by simp [results, Try.results14, go_sem, t0, t1, t2, t3]) rfl ⟨by rw [unhide E], (unhide H9).2⟩
    have d1 : (I.mn == 1) = false := by rw [beq_eq_false_iff_ne]; exact m1
    by_cases m2 : I.mn = 2
    · have E := hide (unhide HN2 m2)
      have HRF := hide (unhide HRZ)
      have d2 : (I.mn == 2) = true := by rw [beq_iff_eq]; exact m2
      clear m1 m2
      go_wp2_with fail
      refine (refLinear_any (I := I) ((unhide HH).ext (unhide H3).1) (unhide HA) (unhide HB) 0 u q (unhide HU).1 (unhide HU).2.1 (unhide HRF)).mono ?_
      rintro e w6 ⟨rfl, hx6⟩
      generalize lnI I (levAt I 0) u q = V at *
      have hR := (unhide H3).2.2.ext hx6
      obtain ⟨r0, r1, r2, r3⟩ := hR.four
      obtain ⟨f0, f1, f2, f3, _⟩ := hR.frees
      have H9 := hide (And.intro (hR.put4 (.int .i32 (V 0)) (.int .i32 (V 1)) (.int .i32 (V 2)) (.int .i32 (V 3))) (ext_put4 (b := w.heap.size + 1) (a0 := .int .i32 (V 0)) (a1 := .int .i32 (V 1)) (a2 := .int .i32 (V 2)) (a3 := .int .i32 (V 3)) ((unhide H3).1.trans hx6) (by omega)))
      clear hR hx6
      go_wp2
      obtain ⟨t0, t1, t2, t3⟩ := (unhide H9).1.four
      refine bodyPost_ret (v := .agg #[.int .i32 (V 0), .int .i32 (V 1), .int .i32 (V 2), .int .i32 (V 3)]) (by simp [results, Try.results14, go_sem, t0, t1, t2, t3]) rfl ⟨by rw [unhide E], (unhide H9).2⟩
    have d2 : (I.mn == 2) = false := by rw [beq_eq_false_iff_ne]; exact m2
    by_cases m3 : I.mn = 3
    · have E := hide (unhide HN3 m3)
      have HRF := hide (unhide HRL (.inl m3))
      have d3 : (I.mn == 3) = true := by rw [beq_iff_eq]; exact m3
      clear m1 m2 m3
      rw [unhide HLV] at E HRF
      go_wp2_with fail
      refine (refNearest_any (I := I) ((unhide HH).ext (unhide H3).1) (unhide HA) (unhide HB) (ct - 1) u q (unhide HU).1 (unhide HU).2.1 (unhide HRF)).mono ?_
      rintro e w6 ⟨rfl, hx6⟩
      generalize nrI I (levAt I (ct - 1)) u q = V at *
      have hR := (unhide H3).2.2.ext hx6
      obtain ⟨r0, r1, r2, r3⟩ := hR.four
      obtain ⟨f0, f1, f2, f3, _⟩ := hR.frees
      have H9 := hide (And.intro (hR.put4 (.int .i32 (V 0)) (.int .i32 (V 1)) (.int .i32 (V 2)) (.int .i32 (V 3))) (ext_put4 (b := w.heap.size + 1) (a0 := .int .i32 (V 0)) (a1 := .int .i32 (V 1)) (a2 := .int .i32 (V 2)) (a3 := .int .i32 (V 3)) ((unhide H3).1.trans hx6) (by omega)))
      clear hR hx6
      go_wp2
      obtain ⟨t0, t1, t2, t3⟩ := (unhide H9).1.four
      refine bodyPost_ret (v := .agg #[.int .i32 (V 0), .int .i32 (V 1), .int .i32 (V 2), .int .i32 (V 3)]) (by simp [results, Try.results14, go_sem, t0, t1, t2, t3]) rfl ⟨by rw [unhide E], (unhide H9).2⟩
    have d3 : (I.mn == 3) = false := by rw [beq_eq_false_iff_ne]; exact m3
    have m4 : I.mn = 4 := by have := unhide HMN; omega
    have E := hide (unhide HN4 m4)
    have HRF := hide (unhide HRL (.inr m4))
    clear m1 m2 m3 m4
    rw [unhide HLV] at E HRF
    go_wp2_with fail
    refine (refLinear_any (I := I) ((unhide HH).ext (unhide H3).1) (unhide HA) (unhide HB) (ct - 1) u q (unhide HU).1 (unhide HU).2.1 (unhide HRF)).mono ?_
    rintro e w6 ⟨rfl, hx6⟩
    generalize lnI I (levAt I (ct - 1)) u q = V at *
    have hR := (unhide H3).2.2.ext hx6
    obtain ⟨r0, r1, r2, r3⟩ := hR.four
    obtain ⟨f0, f1, f2, f3, _⟩ := hR.frees
    have H9 := hide (And.intro (hR.put4 (.int .i32 (V 0)) (.int .i32 (V 1)) (.int .i32 (V 2)) (.int .i32 (V 3))) (ext_put4 (b := w.heap.size + 1) (a0 := .int .i32 (V 0)) (a1 := .int .i32 (V 1)) (a2 := .int .i32 (V 2)) (a3 := .int .i32 (V 3)) ((unhide H3).1.trans hx6) (by omega)))
    clear hR hx6
    go_wp2
    obtain ⟨t0, t1, t2, t3⟩ := (unhide H9).1.four
    refine bodyPost_ret (v := .agg #[.int .i32 (V 0), .int .i32 (V 1), .int .i32 (V 2), .int .i32 (V 3)]) (by simp [results, Try.results14, go_sem, t0, t1, t2, t3]) rfl ⟨by rw [unhide E], (unhide H9).2⟩
  · have HLV : Hid (lodI I lod = x) := by show _ = _; rw [unhide HLC, if_neg hgt]
    clear HLC
    by_cases m1 : I.mn = 1
    · have E := hide (unhide HN1 m1)
      have HRF := hide (unhide HRZ)
      have d1 : (I.mn == 1) = true := by rw [beq_iff_eq]; exact m1
      clear m1
      go_wp2_with fail
      refine (refNearest_any (I := I) ((unhide HH).ext (unhide H3).1) (unhide HA) (unhide HB) 0 u q (unhide HU).1 (unhide HU).2.1 (unhide HRF)).mono ?_
      rintro e w6 ⟨rfl, hx6⟩
      generalize nrI I (levAt I 0) u q = V at *
      have hR := (unhide H3).2.2.ext hx6
      obtain ⟨r0, r1, r2, r3⟩ := hR.four
      obtain ⟨f0, f1, f2, f3, _⟩ := hR.frees
      have H9 := hide (And.intro (hR.put4 (.int .i32 (V 0)) (.int .i32 (V 1)) (.int .i32 (V 2)) (.int .i32 (V 3))) (ext_put4 (b := w.heap.size + 1) (a0 := .int .i32 (V 0)) (a1 := .int .i32 (V 1)) (a2 := .int .i32 (V 2)) (a3 := .int .i32 (V 3)) ((unhide H3).1.trans hx6) (by omega)))
      clear hR hx6
      go_wp2
      obtain ⟨t0, t1, t2, t3⟩ := (unhide H9).1.four
      refine bodyPost_ret (v := .agg #[.int .i32 (V 0), .int .i32 (V 1), .int .i32 (V 2), .int .i32 (V 3)]) (by simp [results, Try.results14, go_sem, t0, t1, t2, t3]) rfl ⟨by rw [unhide E], (unhide H9).2⟩
    have d1 : (I.mn == 1) = false := by rw [beq_eq_false_iff_ne]; exact m1
    by_cases m2 : I.mn = 2
    · have E := hide (unhide HN2 m2)
      have HRF := hide (unhide HRZ)
      have d2 : (I.mn == 2) = true := by rw [beq_iff_eq]; exact m2
      clear m1 m2
      go_wp2_with fail
      refine (refLinear_any (I := I) ((unhide HH).ext (unhide H3).1) (unhide HA) (unhide HB) 0 u q (unhide HU).1 (unhide HU).2.1 (unhide HRF)).mono ?_
      rintro e w6 ⟨rfl, hx6⟩
      generalize lnI I (levAt I 0) u q = V at *
      have hR := (unhide H3).2.2.ext hx6
      obtain ⟨r0, r1, r2, r3⟩ := hR.four
      obtain ⟨f0, f1, f2, f3, _⟩ := hR.frees
      have H9 := hide (And.intro (hR.put4 (.int .i32 (V 0)) (.int .i32 (V 1)) (.int .i32 (V 2)) (.int .i32 (V 3))) (ext_put4 (b := w.heap.size + 1) (a0 := .int .i32 (V 0)) (a1 := .int .i32 (V 1)) (a2 := .int .i32 (V 2)) (a3 := .int .i32 (V 3)) ((unhide H3).1.trans hx6) (by omega)))
      clear hR hx6
      go_wp2
      obtain ⟨t0, t1, t2, t3⟩ := (unhide H9).1.four
      refine bodyPost_ret (v := .agg #[.int .i32 (V 0), .int .i32 (V 1), .int .i32 (V 2), .int .i32 (V 3)]) (by simp [results, Try.results14, go_sem, t0, t1, t2, t3]) rfl ⟨by rw [unhide E], (unhide H9).2⟩
    have d2 : (I.mn == 2) = false := by rw [beq_eq_false_iff_ne]; exact m2
    by_cases m3 : I.mn = 3
    · have E := hide (unhide HN3 m3)
      have HRF := hide (unhide HRL (.inl m3))
      have d3 : (I.mn == 3) = true := by rw [beq_iff_eq]; exact m3
      clear m1 m2 m3
      rw [unhide HLV] at E HRF
      go_wp2_with fail
      refine (refNearest_any (I := I) ((unhide HH).ext (unhide H3).1) (unhide HA) (unhide HB) x u q (unhide HU).1 (unhide HU).2.1 (unhide HRF)).mono ?_
      rintro e w6 ⟨rfl, hx6⟩
      generalize nrI I (levAt I x) u q = V at *
      have hR := (unhide H3).2.2.ext hx6
      obtain ⟨r0, r1, r2, r3⟩ := hR.four
      obtain ⟨f0, f1, f2, f3, _⟩ := hR.frees
      have H9 := hide (And.intro (hR.put4 (.int .i32 (V 0)) (.int .i32 (V 1)) (.int .i32 (V 2)) (.int .i32 (V 3))) (ext_put4 (b := w.heap.size + 1) (a0 := .int .i32 (V 0)) (a1 := .int .i32 (V 1)) (a2 := .int .i32 (V 2)) (a3 := .int .i32 (V 3)) ((unhide H3).1.trans hx6) (by omega)))
      clear hR hx6
      go_wp2
      obtain ⟨t0, t1, t2, t3⟩ := (unhide H9).1.four
      refine bodyPost_ret (v := .agg #[.int .i32 (V 0), .int .i32 (V 1), .int .i32 (V 2), .int .i32 (V 3)]) (by simp [results, Try.results14, go_sem, t0, t1, t2, t3]) rfl ⟨by rw [unhide E], (unhide H9).2⟩
    have d3 : (I.mn == 3) = false := by rw [beq_eq_false_iff_ne]; exact m3
    have m4 : I.mn = 4 := by have := unhide HMN; omega
    have E := hide (unhide HN4 m4)
    have HRF := hide (unhide HRL (.inr m4))
    clear m1 m2 m3 m4
    rw [unhide HLV] at E HRF
    go_wp2_with fail
    refine (refLinear_any (I := I) ((unhide HH).ext (unhide H3).1) (unhide HA) (unhide HB) x u q (unhide HU).1 (unhide HU).2.1 (unhide HRF)).mono ?_
    rintro e w6 ⟨rfl, hx6⟩
    generalize lnI I (levAt I x) u q = V at *
    have hR := (unhide H3).2.2.ext hx6
    obtain ⟨r0, r1, r2, r3⟩ := hR.four
    obtain ⟨f0, f1, f2, f3, _⟩ := hR.frees
    have H9 := hide (And.intro (hR.put4 (.int .i32 (V 0)) (.int .i32 (V 1)) (.int .i32 (V 2)) (.int .i32 (V 3))) (ext_put4 (b := w.heap.size + 1) (a0 := .int .i32 (V 0)) (a1 := .int .i32 (V 1)) (a2 := .int .i32 (V 2)) (a3 := .int .i32 (V 3)) ((unhide H3).1.trans hx6) (by omega)))
    clear hR hx6
    go_wp2
    obtain ⟨t0, t1, t2, t3⟩ := (unhide H9).1.four
    refine bodyPost_ret (v := .agg #[.int .i32 (V 0), .int .i32 (V 1), .int .i32 (V 2), .int .i32 (V 3)]) (by simp [results, Try.results14, go_sem, t0, t1, t2, t3]) rfl ⟨by rw [unhide E], (unhide H9).2⟩
end
end Go.Proofs.Ytadajaoidhbmgaa
