/- Several texts in one. -/
import Derived.Test.YtglfhmlcmffoaaaGreatSL
import Derived.Test.YtglfhmlcmffoaaaGreatVO
import Derived.Test.YtglfhmlcmffoaaaGreatMYJ
import Derived.Test.YtglfhmlcmffoaaaGreatVEJ
import Derived.Test.YtglfhmlcmffoaaaGreatVMAJ
/-
  Colours: the walks of levelOf, asked and At.
-/
namespace Go.Proofs.YtglfhmlcmffoaaaGreat
open Go.RowKit
set_option linter.unusedVariables false
set_option linter.unusedSimpArgs false

section
variable {w : World} {v : Value} {L : List Ent} {I : Img}
set_option maxRecDepth 10000 in
set_option maxHeartbeats 1000000 in
theorem levelOf_any (h : LR w v L) (hA : I.L = absL L) (hok : okB (sizI I.f) I = true) (h0 : hasB I.L 0 = true) (lod : Int) (hl : I32 lod) :
    Calls Tryz.prog 169 #[.agg #[.int .i64 I.f, v, .int .i64 I.ws, .int .i64 I.wt, .int .i64 I.mn, .int .i64 I.mg], .int .i32 lod] w fun e w' => e = .returned (.int .i64 (lodI I lod)) ∧ Ext w w' := by
  obtain ⟨k, hk, e0, hlv, hlk⟩ := lv_open hA hok h0
  obtain rfl : k = 0 := by omega
  obtain ⟨ao, cap, rfl, hao, hlc, hcm, _⟩ := h.shape
  have hcm2 : cap ≤ 9223372036854775807 := by unfold maxLen at hcm; omega
  have HE : Hid (lodI I lod = wrapI 2 ((lod + 32768) / 65536) (cntI L[0].1 L[0].2.1)) := by
    show _ = _
    unfold lodI
    rw [hlv]
  have hx1 := (Ext.refl w).alloc (.cells #[.int .i64 I.f, .slice ao L.length cap, .int .i64 I.ws, .int .i64 I.wt, .int .i64 I.mn, .int .i64 I.mg] 112)
  obtain ⟨b, off, bo, bcap, rfl, eb, c0, c1, c2, hr⟩ := (h.ext hx1).at 0 hk
  have hkn : (0 : Int) < (L.length : Int) := by omega
  obtain ⟨l1, l2⟩ := hl
  have HX := hide (hx1.alloc (.cells #[.int .i64 L[0].1, .int .i64 L[0].2.1, .slice bo L[0].2.2.2.length bcap] 156))
  generalize L[0].1 = W at *
  generalize L[0].2.1 = H at *
  generalize L[0].2.2.2 = bs at *
  simp only [Nat.zero_mul, Nat.add_zero] at c0 c1 c2
  clear h hA hok h0 hlv hlk hao hcm eb hr e0
  go_enter Tryz.func169, Tryz.ntmps169
  go_wp2_with fail
  refine (count_any W H _).mono ?_
  rintro e w3 ⟨rfl, rfl⟩
  go_wp2_with fail
  refine (wrap_any _ _ _ _).mono ?_
  rintro e w3 ⟨rfl, rfl⟩
  go_wp2
  go_ret
  rw [unhide HE]
  exact ⟨rfl, unhide HX⟩

set_option maxRecDepth 10000 in
set_option maxHeartbeats 1000000 in
theorem asked_any (h : LR w v L) (hA : I.L = absL L) (hc : cmpB I = true) (lod : Int) (hl : I32 lod) :
    Calls Tryz.prog 121 #[.agg #[.int .i64 I.f, v, .int .i64 I.ws, .int .i64 I.wt, .int .i64 I.mn, .int .i64 I.mg], .int .i32 lod] w fun e w' => e = .returned (.tuple #[.int .i64 (askL I lod), .int .i64 (askM I lod)]) ∧ Ext w w' := by
  obtain ⟨hok, h0⟩ := cmp_ok hc
  obtain ⟨ao, cap, rfl, hao, hlc, hcm, _⟩ := h.shape
  have hx1 := (Ext.refl w).alloc (.cells #[.int .i64 I.f, .slice ao L.length cap, .int .i64 I.ws, .int .i64 I.wt, .int .i64 I.mn, .int .i64 I.mg] 112)
  have hB := Blk.new w #[.int .i64 I.f, .slice ao L.length cap, .int .i64 I.ws, .int .i64 I.wt, .int .i64 I.mn, .int .i64 I.mg] 112
  obtain ⟨q0, q1, q2, q3, q4, q5⟩ := hB.six
  have HX := hide hx1
  have HL := hide (levelOf_any (h.ext hx1) hA hok h0 lod hl)
  obtain ⟨l1, l2⟩ := hl
  clear h hA hc hok h0 hao hcm hB hx1
  by_cases a1 : lod ≤ 0
  · have E1 := hide (show askL I lod = 0 by unfold askL; rw [if_pos a1])
    have E2 := hide (show askM I lod = I.mg by unfold askM; rw [if_pos a1])
    go_enter Tryz.func121, Tryz.ntmps121
    go_upto_region 2 with fail
    go_quiet (fail)
    go_wp2
    refine bodyPost_ret (v := .tuple #[.int .i64 0, .int .i64 I.mg]) (by simp [results, Tryz.results121, go_sem]) rfl ⟨by rw [unhide E1, unhide E2], (unhide HX).drewN _⟩
  by_cases a3 : I.mn = 3
  · have E1 := hide (show askL I lod = lodI I lod by unfold askL; rw [if_neg a1, if_pos (.inl a3)])
    have E2 := hide (show askM I lod = 1 by unfold askM; rw [if_neg a1, if_pos a3])
    have d3 : (I.mn == 3) = true := by rw [beq_iff_eq]; exact a3
    clear a3
    go_enter Tryz.func121, Tryz.ntmps121
    go_wp2_with fail
    refine (unhide HL).mono ?_
    rintro e w3 ⟨rfl, hx3⟩
    go_wp2
    refine bodyPost_ret (v := .tuple #[.int .i64 (lodI I lod), .int .i64 1]) (by simp [results, Tryz.results121, go_sem]) rfl ⟨by rw [unhide E1, unhide E2], (unhide HX).trans hx3⟩
  have d3 : (I.mn == 3) = false := by rw [beq_eq_false_iff_ne]; exact a3
  by_cases a4 : I.mn = 4
  · have E1 := hide (show askL I lod = lodI I lod by unfold askL; rw [if_neg a1, if_pos (.inr a4)])
    have E2 := hide (show askM I lod = 2 by unfold askM; rw [if_neg a1, if_neg a3, if_pos a4])
    have d4 : (I.mn == 4) = true := by rw [beq_iff_eq]; exact a4
    clear a3 a4
    go_enter Tryz.func121, Tryz.ntmps121
    go_wp2_with fail
    refine (unhide HL).mono ?_
    rintro e w3 ⟨rfl, hx3⟩
    go_wp2
    refine bodyPost_ret (v := .tuple #[.int .i64 (lodI I lod), .int .i64 2]) (by simp [results, Tryz.results121, go_sem]) rfl ⟨by rw [unhide E1, unhide E2], (unhide HX).trans hx3⟩
  have d4 : (I.mn == 4) = false := by rw [beq_eq_false_iff_ne]; exact a4
  have E1 := hide (show askL I lod = 0 by unfold askL; rw [if_neg a1, if_neg (by omega)])
  have E2 := hide (show askM I lod = I.mn by unfold askM; rw [if_neg a1, if_neg a3, if_neg a4])
  clear a3 a4 HL
  go_enter Tryz.func121, Tryz.ntmps121
  go_upto_region 8 with fail
  go_quiet (fail)
  go_wp2
  refine bodyPost_ret (v := .tuple #[.int .i64 0, .int .i64 I.mn]) (by simp [results, Tryz.results121, go_sem]) rfl ⟨by rw [unhide E1, unhide E2], (unhide HX).drewN _⟩

/-- What At answers. -/
def atE (I : Img) : Int := if okB (sizI I.f) I = false then 180 else 0
def atV (I : Img) (u q lod : Int) : Nat → Int := if okB (sizI I.f) I = false then nul else atI I u q lod
set_option maxRecDepth 10000 in
set_option maxHeartbeats 4000000 in
theorem at_any (h : LR w v L) (hL : L.length ≤ 4000000000000) (hA : I.L = absL L) (hby : ∀ p ∈ L, Byt p.2.2.2) (u q lod : Int) (hu : I32 u) (hq : I32 q) (hl : I32 lod) :
    Calls Tryz.prog 77 #[.agg #[.int .i64 I.f, v, .int .i64 I.ws, .int .i64 I.wt, .int .i64 I.mn, .int .i64 I.mg], .int .i32 u, .int .i32 q, .int .i32 lod] w fun e w' => e = .returned (.tuple #[.agg #[.int .i32 ((atV I u q lod) 0), .int .i32 ((atV I u q lod) 1), .int .i32 ((atV I u q lod) 2), .int .i32 ((atV I u q lod) 3)], .int .i64 (atE I)]) ∧ Ext w w' := by
  obtain ⟨ao, cap, rfl, hao, hlc, hcm, _⟩ := h.shape
  have H1 := hide (And.intro (((Ext.refl w).alloc (.cells #[.int .i64 I.f, .slice ao L.length cap, .int .i64 I.ws, .int .i64 I.wt, .int .i64 I.mn, .int .i64 I.mg] 112)).alloc (.cells #[.int .i32 0, .int .i32 0, .int .i32 0, .int .i32 0] 28)) (And.intro ((Blk.new w #[.int .i64 I.f, .slice ao L.length cap, .int .i64 I.ws, .int .i64 I.wt, .int .i64 I.mn, .int .i64 I.mg] 112).alloc (.cells #[.int .i32 0, .int .i32 0, .int .i32 0, .int .i32 0] 28)) (show Blk ((w.alloc (.cells #[.int .i64 I.f, .slice ao L.length cap, .int .i64 I.ws, .int .i64 I.wt, .int .i64 I.mn, .int .i64 I.mg] 112)).alloc (.cells #[.int .i32 0, .int .i32 0, .int .i32 0, .int .i32 0] 28)) (w.heap.size + 1) #[.int .i32 0, .int .i32 0, .int .i32 0, .int .i32 0] 28 from Blk.at (by simp))))
  have HH := hide h
  have HA := hide hA
  have HB := hide hby
  have HU := hide (And.intro hu (And.intro hq hl))
  clear h hA hby hao hcm hu hq hl
  go_enter Tryz.func77, Tryz.ntmps77
  go_wp2_with fail
  refine (check_any (I := I) ((unhide HH).ext (unhide H1).1) hL (unhide HA)).mono ?_
  rintro e w3 ⟨rfl, hx3⟩
  have H3 := hide (And.intro ((unhide H1).1.trans hx3) (And.intro ((unhide H1).2.1.ext hx3) ((unhide H1).2.2.ext hx3)))
  clear H1 hx3
  obtain ⟨q0, q1, q2, q3, q4, q5⟩ := (unhide H3).2.1.six
  cases hok : okB (sizI I.f) I with
  | false =>
    have c1 := chkE_no (I := I) (by rw [hok]; simp)
    have E1 := hide (show atE I = 180 by unfold atE; rw [if_pos hok])
    have E2 := hide (show atV I u q lod = nul by unfold atV; rw [if_pos hok])
    rw [c1]
    clear c1 hok
    have hR := (unhide H3).2.2
    obtain ⟨r0, r1, r2, r3⟩ := hR.four
    obtain ⟨f0, f1, f2, f3, _⟩ := hR.frees
    have H9 := hide (And.intro (hR.put4 (.int .i32 0) (.int .i32 0) (.int .i32 0) (.int .i32 0)) (ext_put4 (b := w.heap.size + 1) (a0 := .int .i32 0) (a1 := .int .i32 0) (a2 := .int .i32 0) (a3 := .int .i32 0) (unhide H3).1 (by omega)))
    clear hR
    go_wp2
    obtain ⟨t0, t1, t2, t3⟩ := (unhide H9).1.four
    refine bodyPost_ret (v := .tuple #[.agg #[.int .i32 0, .int .i32 0, .int .i32 0, .int .i32 0], .int .i64 180]) (by simp [results, Tryz.results77, go_sem, t0, t1, t2, t3]) rfl ⟨?_, (unhide H9).2⟩
    rw [unhide E1, unhide E2]
    rfl
  | true =>
  have c1 := chkE_yes (I := I) hok
  have E1 := hide (show atE I = 0 by unfold atE; rw [hok, if_neg (by simp)])
  have E2 := hide (show atV I u q lod = atI I u q lod by unfold atV; rw [hok, if_neg (by simp)])
  have HOK := hide hok
  have hL7 : L.length ≤ 7 := by
    have := (okB_iff.1 hok).1
    rw [unhide HA, absL_len] at this
    exact this
  rw [c1]
  clear c1 hok
  go_wp2_with fail
  refine (complete_any (I := I) ((unhide HH).ext (unhide H3).1) (by omega) (unhide HA)).mono ?_
  rintro e w4 ⟨rfl, hx4⟩
  have H4 := hide (And.intro ((unhide H3).1.trans hx4) (And.intro ((unhide H3).2.1.ext hx4) ((unhide H3).2.2.ext hx4)))
  clear H3 hx4 q0 q1 q2 q3 q4 q5
  obtain ⟨q0, q1, q2, q3, q4, q5⟩ := (unhide H4).2.1.six
  cases hc : cmpB I with
  | false =>
    have E3 := hide (show atI I u q lod = blk0 by unfold atI; rw [if_pos hc])
    clear hc
    have hR := (unhide H4).2.2
    obtain ⟨r0, r1, r2, r3⟩ := hR.four
    obtain ⟨f0, f1, f2, f3, _⟩ := hR.frees
    have H9 := hide (And.intro (hR.put4 (.int .i32 0) (.int .i32 0) (.int .i32 0) (.int .i32 65536)) (ext_put4 (b := w.heap.size + 1) (a0 := .int .i32 0) (a1 := .int .i32 0) (a2 := .int .i32 0) (a3 := .int .i32 65536) (unhide H4).1 (by omega)))
    clear hR
    go_wp2
    obtain ⟨t0, t1, t2, t3⟩ := (unhide H9).1.four
    refine bodyPost_ret (v := .tuple #[.agg #[.int .i32 0, .int .i32 0, .int .i32 0, .int .i32 65536], .int .i64 0]) (by simp [results, Tryz.results77, go_sem, t0, t1, t2, t3]) rfl ⟨?_, (unhide H9).2⟩
    rw [unhide E1, unhide E2, unhide E3]
    rfl
  | true =>
  have HC := hide hc
  have E3 := hide (show atI I u q lod = if askM I lod = 2 then lnI I (levAt I (askL I lod)) u q else nrI I (levAt I (askL I lod)) u q by unfold atI; rw [hc, if_neg (by simp)])
  clear hc
  have HRF : Hid (rfE I (askL I lod) = 0) := rf_yes (unhide HOK) (ask_has (unhide HC) lod)
  go_wp2_with fail
  refine (asked_any (I := I) ((unhide HH).ext (unhide H4).1) (unhide HA) (unhide HC) lod (unhide HU).2.2).mono ?_
  rintro e w5 ⟨rfl, hx5⟩
  have H5 := hide (And.intro ((unhide H4).1.trans hx5) (And.intro ((unhide H4).2.1.ext hx5) ((unhide H4).2.2.ext hx5)))
  clear H4 hx5 q0 q1 q2 q3 q4 q5
  obtain ⟨q0, q1, q2, q3, q4, q5⟩ := (unhide H5).2.1.six
  by_cases m2 : askM I lod = 2
  · rw [if_pos m2] at E3
    have d2 : (askM I lod == 2) = true := by rw [beq_iff_eq]; exact m2
    clear m2
    generalize askM I lod = am at *
    go_wp2_with fail
    refine (linear_good (I := I) ((unhide HH).ext (unhide H5).1) hL (unhide HA) (unhide HB) _ u q (unhide HU).1 (unhide HU).2.1 (unhide HRF)).mono ?_
    rintro e w6 ⟨rfl, hx6⟩
    generalize lnI I (levAt I (askL I lod)) u q = V at *
    have hR := (unhide H5).2.2.ext hx6
    obtain ⟨r0, r1, r2, r3⟩ := hR.four
    obtain ⟨f0, f1, f2, f3, _⟩ := hR.frees
    have H9 := hide (And.intro (hR.put4 (.int .i32 (V 0)) (.int .i32 (V 1)) (.int .i32 (V 2)) (.int .i32 (V 3))) (ext_put4 (b := w.heap.size + 1) (a0 := .int .i32 (V 0)) (a1 := .int .i32 (V 1)) (a2 := .int .i32 (V 2)) (a3 := .int .i32 (V 3)) ((unhide H5).1.trans hx6) (by omega)))
    clear hR hx6
    go_wp2
    obtain ⟨t0, t1, t2, t3⟩ := (unhide H9).1.four
    refine bodyPost_ret (v := .tuple #[.agg #[.int .i32 (V 0), .int .i32 (V 1), .int .i32 (V 2), .int .i32 (V 3)], .int .i64 0]) (by simp [results, Tryz.results77, go_sem, t0, t1, t2, t3]) rfl ⟨?_, (unhide H9).2⟩
    rw [unhide E1, unhide E2, unhide E3]
  · rw [if_neg m2] at E3
    have d2 : (askM I lod == 2) = false := by rw [beq_eq_false_iff_ne]; exact m2
    clear m2
    generalize askM I lod = am at *
    go_wp2_with fail
    refine (nearest_good (I := I) ((unhide HH).ext (unhide H5).1) hL (unhide HA) (unhide HB) _ u q (unhide HU).1 (unhide HU).2.1 (unhide HRF)).mono ?_
    rintro e w6 ⟨rfl, hx6⟩
    generalize nrI I (levAt I (askL I lod)) u q = V at *
    have hR := (unhide H5).2.2.ext hx6
    obtain ⟨r0, r1, r2, r3⟩ := hR.four
    obtain ⟨f0, f1, f2, f3, _⟩ := hR.frees
    have H9 := hide (And.intro (hR.put4 (.int .i32 (V 0)) (.int .i32 (V 1)) (.int .i32 (V 2)) (.int .i32 (V 3))) (ext_put4 (b := w.heap.size + 1) (a0 := .int .i32 (V 0)) (a1 := .int .i32 (V 1)) (a2 := .int .i32 (V 2)) (a3 := .int .i32 (V 3)) ((unhide H5).1.trans hx6) (by omega)))
    clear hR hx6
    go_wp2
    obtain ⟨t0, t1, t2, t3⟩ := (unhide H9).1.four
    refine bodyPost_ret (v := .tuple #[.agg #[.int .i32 (V 0), .int .i32 (V 1), .int .i32 (V 2), .int .i32 (V 3)], .int .i64 0]) (by simp [results, Tryz.results77, go_sem, t0, t1, t2, t3]) rfl ⟨?_, (unhide H9).2⟩
    rw [unhide E1, unhide E2, unhide E3]
end
end Go.Proofs.YtglfhmlcmffoaaaGreat

/-
  The machine of registers: texture.
-/
namespace Go.Proofs.YtglfhmlcmffoaaaGreat
open Go.RowKit
set_option linter.unusedVariables false
set_option linter.unusedSimpArgs false

/-- The slice value v holds images. -/
def GR (w : World) (v : Value) (G : List (Img × Value × List Ent)) : Prop :=
  ∃ ao cap, v = .slice ao G.length cap ∧ ∀ i (h : i < G.length), ∃ b off, ao = some ⟨b, off, none⟩ ∧ w.rangeAt b (off + i * 6) (#[.int .i64 G[i].1.f, G[i].2.1, .int .i64 G[i].1.ws, .int .i64 G[i].1.wt, .int .i64 G[i].1.mn, .int .i64 G[i].1.mg] : Array Value).toList ∧ LR w G[i].2.1 G[i].2.2 ∧ G[i].2.2.length ≤ 4000000000000 ∧ G[i].1.L = absL G[i].2.2 ∧ ∀ p ∈ G[i].2.2, Byt p.2.2.2
theorem GR.ext {w w' : World} {v : Value} {G : List (Img × Value × List Ent)} (h : GR w v G) (hx : Ext w w') : GR w' v G := by
  obtain ⟨ao, cap, e, hc⟩ := h
  refine ⟨ao, cap, e, fun i hi => ?_⟩
  obtain ⟨b, off, h1, h2, h3, h4⟩ := hc i hi
  exact ⟨b, off, h1, rng_ext h2 hx, h3.ext hx, h4⟩
theorem blk_nul {w : World} {b : Nat} {t : TypeId} (h : Blk w b #[.int .i32 0, .int .i32 0, .int .i32 0, .int .i32 0] t) : Blk w b #[.int .i32 (nul 0), .int .i32 (nul 1), .int .i32 (nul 2), .int .i32 (nul 3)] t := h
def blackV : Nat → Int := fun i => if i = 3 then 65536 else 0
/-- What OpTex comes to. -/
def texI (G : List (Img × Value × List Ent)) (a b : Nat → Int) : Nat → Int := cut 4 <|
  if h : 0 ≤ a 0 ∧ (a 0).toNat < G.length then (if atE (G[(a 0).toNat]'h.2).1 = 0 then atV (G[(a 0).toNat]'h.2).1 (b 0) (b 1) 0 else blackV) else blackV

set_option maxRecDepth 10000 in
set_option maxHeartbeats 4000000 in
theorem texture_any {w : World} {mb : Nat} {E : EnvC} {vr : Value} {O : OutC} {G : List (Img × Value × List Ent)} (a q : Nat → Int) (hm : Blk w mb (mcA E vr O) 71) (hg : GR w E.vi G) (Ia : ∀ i, I32 (a i)) (Iq : ∀ i, I32 (q i)) :
    Calls Tryz.prog 73 #[.pointer (some ⟨mb, 0, none⟩), .agg #[.int .i32 (a 0), .int .i32 (a 1), .int .i32 (a 2), .int .i32 (a 3)], .agg #[.int .i32 (q 0), .int .i32 (q 1), .int .i32 (q 2), .int .i32 (q 3)]] w fun e w' => e = .returned (.agg #[.int .i32 (texI G a q 0), .int .i32 (texI G a q 1), .int .i32 (texI G a q 2), .int .i32 (texI G a q 3)]) ∧ Ext w w' := by
  have hX : Ext w (((w.alloc (.cells #[.int .i32 (a 0), .int .i32 (a 1), .int .i32 (a 2), .int .i32 (a 3)] 28)).alloc (.cells #[.int .i32 (q 0), .int .i32 (q 1), .int .i32 (q 2), .int .i32 (q 3)] 28)).alloc (.cells #[.int .i32 (nul 0), .int .i32 (nul 1), .int .i32 (nul 2), .int .i32 (nul 3)] 28)) := (((Ext.refl w).alloc _).alloc _).alloc _
  have hB : Blk (((w.alloc (.cells #[.int .i32 (a 0), .int .i32 (a 1), .int .i32 (a 2), .int .i32 (a 3)] 28)).alloc (.cells #[.int .i32 (q 0), .int .i32 (q 1), .int .i32 (q 2), .int .i32 (q 3)] 28)).alloc (.cells #[.int .i32 (nul 0), .int .i32 (nul 1), .int .i32 (nul 2), .int .i32 (nul 3)] 28)) (w.heap.size + 1 + 1) #[.int .i32 (nul 0), .int .i32 (nul 1), .int .i32 (nul 2), .int .i32 (nul 3)] 28 := Blk.at (by simp)
  have hq : Blk (((w.alloc (.cells #[.int .i32 (a 0), .int .i32 (a 1), .int .i32 (a 2), .int .i32 (a 3)] 28)).alloc (.cells #[.int .i32 (q 0), .int .i32 (q 1), .int .i32 (q 2), .int .i32 (q 3)] 28)).alloc (.cells #[.int .i32 (nul 0), .int .i32 (nul 1), .int .i32 (nul 2), .int .i32 (nul 3)] 28)) (w.heap.size + 1) #[.int .i32 (q 0), .int .i32 (q 1), .int .i32 (q 2), .int .i32 (q 3)] 28 := (Blk.at (by simp)).alloc _
  have ha : Blk (((w.alloc (.cells #[.int .i32 (a 0), .int .i32 (a 1), .int .i32 (a 2), .int .i32 (a 3)] 28)).alloc (.cells #[.int .i32 (q 0), .int .i32 (q 1), .int .i32 (q 2), .int .i32 (q 3)] 28)).alloc (.cells #[.int .i32 (nul 0), .int .i32 (nul 1), .int .i32 (nul 2), .int .i32 (nul 3)] 28)) (w.heap.size) #[.int .i32 (a 0), .int .i32 (a 1), .int .i32 (a 2), .int .i32 (a 3)] 28 := ((Blk.new w _ _).alloc _).alloc _
  obtain ⟨ao, cap, ev, hc⟩ := hg
  have m12 := mc_at (hm.ext hX) 12 (v := E.vi) rfl
  rw [ev] at m12
  have D := hide (And.intro hB hX)
  obtain ⟨f0, f1, f2, f3⟩ := hB.free4
  obtain ⟨n0, n1, n2, n3⟩ := hB.vec4
  obtain ⟨q0, q1, _, _⟩ := hq.vec4
  have a0 := ha.vec 0 (by omega)
  have HG := hide hc
  have IA := hide (Ia 0)
  have IQ := hide (And.intro (Iq 0) (Iq 1))
  have hlo : -2147483648 ≤ a 0 := (Ia 0).1
  have hhi : a 0 ≤ 2147483647 := (Ia 0).2
  have hmb := hm.lt
  have hne : ¬ mb = w.heap.size := by omega
  clear hX hB hq ha hm hc Ia Iq
  go_enter Tryz.func73, Tryz.ntmps73
  go_upto_region 1 with fail
  generalize hw3 : (((w.alloc (.cells #[.int .i32 (a 0), .int .i32 (a 1), .int .i32 (a 2), .int .i32 (a 3)] 28)).alloc (.cells #[.int .i32 (q 0), .int .i32 (q 1), .int .i32 (q 2), .int .i32 (q 3)] 28)).alloc (.cells #[.int .i32 (nul 0), .int .i32 (nul 1), .int .i32 (nul 2), .int .i32 (nul 3)] 28)) = w3 at D f0 f1 f2 f3 n0 n1 n2 n3 q0 q1 a0 m12
  rw [show (((w.alloc (.cells #[.int .i32 (a 0), .int .i32 (a 1), .int .i32 (a 2), .int .i32 (a 3)] 28)).alloc (.cells #[.int .i32 (q 0), .int .i32 (q 1), .int .i32 (q 2), .int .i32 (q 3)] 28)).alloc (.cells #[.int .i32 0, .int .i32 0, .int .i32 0, .int .i32 0] 28)) = w3 from hw3]
  clear hw3
  by_cases h0 : 0 ≤ a 0
  case neg =>
    have EE : Hid (texI G a q = cut 4 blackV) := by unfold texI; rw [dif_neg (fun h => h0 h.1)]; trivial
    have d0 : decide (0 ≤ a 0) = false := decide_eq_false h0
    clear h0
    go_wp2
    obtain ⟨p0, p1, p2, p3⟩ := lay4 (unhide D).1 (.int .i32 0) (.int .i32 0) (.int .i32 0) (.int .i32 65536)
    refine bodyPost_ret (v := .agg #[.int .i32 0, .int .i32 0, .int .i32 0, .int .i32 65536]) (by simp [results, Tryz.results73, go_sem, p0, p1, p2, p3]) rfl ⟨by rw [unhide EE] <;> rfl, ?_⟩
    exact ext_set4 (unhide D).2 (by omega)
  case pos =>
  obtain ⟨k, hk⟩ : ∃ k : Nat, a 0 = (k : Int) := ⟨(a 0).toNat, by omega⟩
  rw [hk] at a0 hlo hhi
  by_cases h1 : k < G.length
  case neg =>
    have EE : Hid (texI G a q = cut 4 blackV) := by unfold texI; rw [dif_neg (fun h => h1 (by have := h.2; omega))]; trivial
    have d0 : decide ((k : Int) < (G.length : Int)) = false := decide_eq_false (by omega)
    clear h0 hk HG
    generalize G.length = n at *
    go_wp2
    obtain ⟨p0, p1, p2, p3⟩ := lay4 (unhide D).1 (.int .i32 0) (.int .i32 0) (.int .i32 0) (.int .i32 65536)
    refine bodyPost_ret (v := .agg #[.int .i32 0, .int .i32 0, .int .i32 0, .int .i32 65536]) (by simp [results, Tryz.results73, go_sem, p0, p1, p2, p3]) rfl ⟨by rw [unhide EE] <;> rfl, ?_⟩
    exact ext_set4 (unhide D).2 (by omega)
  case pos =>
  obtain ⟨b, off, eao, hr, hL, hlen, hA, hby⟩ := (unhide HG) k h1
  subst eao
  have EE : Hid (texI G a q = cut 4 (if atE G[k].1 = 0 then atV G[k].1 (q 0) (q 1) 0 else blackV)) := by
    unfold texI
    rw [dif_pos ⟨h0, by omega⟩]
    have : (a 0).toNat = k := by omega
    simp only [this]
    trivial
  have HR := hide (rng_ext hr (unhide D).2)
  have HAT := hide (fun wx (hx : Ext w3 wx) => at_any (hL.ext ((unhide D).2.trans hx)) hlen hA hby (q 0) (q 1) 0 (unhide IQ).1 (unhide IQ).2 (by unfold I32; omega))
  have hkn : (k : Int) < (G.length : Int) := by omega
  generalize atE G[k].1 = er at *
  generalize atV G[k].1 (q 0) (q 1) 0 = co at *
  have g0 := (unhide HR) 0 _ rfl
  have g1 := (unhide HR) 1 _ rfl
  have g2 := (unhide HR) 2 _ rfl
  have g3 := (unhide HR) 3 _ rfl
  have g4 := (unhide HR) 4 _ rfl
  have g5 := (unhide HR) 5 _ rfl
  simp only [Nat.add_zero] at g0
  generalize G[k].1 = I at *
  generalize G[k].2.1 = lv at *
  clear h0 h1 hk HG hr hL hlen hA hby HR ev IA
  generalize G.length = n at *
  go_upto_region 3 with fail
  go_cut [8, 9] (fun p z wc => ∃ bc, p = .pointer (some ⟨bc, 0, none⟩) ∧ z = .int .i64 er ∧ Hid (Ext w3 wc ∧ Blk wc bc #[.int .i32 (co 0), .int .i32 (co 1), .int .i32 (co 2), .int .i32 (co 3)] 28 ∧ w3.heap.size ≤ bc))
  case first =>
    have HCL := hide (fun wx (hx : Ext w3 wx) => show wx.cell? ⟨mb, 12, none⟩ = some (.slice (some ⟨b, off, none⟩) n cap) ∧ wx.cell? ⟨b, off + k * 6, none⟩ = some (.int .i64 I.f) ∧ wx.cell? ⟨b, off + k * 6 + 1, none⟩ = some lv ∧ wx.cell? ⟨b, off + k * 6 + 2, none⟩ = some (.int .i64 I.ws) ∧ wx.cell? ⟨b, off + k * 6 + 3, none⟩ = some (.int .i64 I.wt) ∧ wx.cell? ⟨b, off + k * 6 + 4, none⟩ = some (.int .i64 I.mn) ∧ wx.cell? ⟨b, off + k * 6 + 5, none⟩ = some (.int .i64 I.mg) ∧ wx.cell? ⟨w.heap.size + 1, 0, none⟩ = some (.int .i32 (q 0)) ∧ wx.cell? ⟨w.heap.size + 1, 1, none⟩ = some (.int .i32 (q 1)) from
      ⟨(hx.cell (World.block_lt_of_cell? _ _ m12)).trans m12, (hx.cell (World.block_lt_of_cell? _ _ g0)).trans g0, (hx.cell (World.block_lt_of_cell? _ _ g1)).trans g1, (hx.cell (World.block_lt_of_cell? _ _ g2)).trans g2, (hx.cell (World.block_lt_of_cell? _ _ g3)).trans g3, (hx.cell (World.block_lt_of_cell? _ _ g4)).trans g4, (hx.cell (World.block_lt_of_cell? _ _ g5)).trans g5, (hx.cell (World.block_lt_of_cell? _ _ q0)).trans q0, (hx.cell (World.block_lt_of_cell? _ _ q1)).trans q1⟩)
    have HC1 := hide (unhide HAT _ (Ext.refl w3).drew)
    have HC2 := hide (unhide HAT _ (((Ext.refl w3).alloc (.cells #[.int .i32 0, .int .i32 0, .int .i32 0, .int .i32 0] 28)).drew))
    go_region_held3 (fun wx => wx.cell? ⟨mb, 12, none⟩ = some (.slice (some ⟨b, off, none⟩) n cap) ∧ wx.cell? ⟨b, off + k * 6, none⟩ = some (.int .i64 I.f) ∧ wx.cell? ⟨b, off + k * 6 + 1, none⟩ = some lv ∧ wx.cell? ⟨b, off + k * 6 + 2, none⟩ = some (.int .i64 I.ws) ∧ wx.cell? ⟨b, off + k * 6 + 3, none⟩ = some (.int .i64 I.wt) ∧ wx.cell? ⟨b, off + k * 6 + 4, none⟩ = some (.int .i64 I.mn) ∧ wx.cell? ⟨b, off + k * 6 + 5, none⟩ = some (.int .i64 I.mg) ∧ wx.cell? ⟨w.heap.size + 1, 0, none⟩ = some (.int .i32 (q 0)) ∧ wx.cell? ⟨w.heap.size + 1, 1, none⟩ = some (.int .i32 (q 1)))
      (first | with_reducible exact unhide HCL _ ((Ext.refl _).drew) | with_reducible exact unhide HCL _ (((Ext.refl _).alloc _).drew) | with_reducible exact unhide HCL _ bx | with_reducible exact unhide HCL _ (bx.alloc _) | with_reducible exact unhide HCL _ (ext_set4 (bx.alloc _) bx.size) | with_reducible exact unhide HCL _ (ext_set4 bx (Nat.le_refl _)))
      (first
        | (go_at_call 77; with_reducible refine (unhide HC1).mono ?_; rintro e w5 ⟨rfl, hx5⟩; have bx : Ext w3 w5 := ((Ext.refl w3).drew).trans hx5; clear hx5)
        | (go_at_call 77; with_reducible refine (unhide HC2).mono ?_; rintro e w5 ⟨rfl, hx5⟩; have bx : Ext w3 w5 := (((Ext.refl w3).alloc (.cells #[.int .i32 0, .int .i32 0, .int .i32 0, .int .i32 0] 28)).drew).trans hx5; have bb := hide (blk_nul (((Blk.new w3 #[.int .i32 0, .int .i32 0, .int .i32 0, .int .i32 0] 28).ext ((Ext.refl _).drew)).ext hx5)); obtain ⟨k0, k1, k2, k3⟩ := (unhide bb).vec4; obtain ⟨l0, l1, l2, l3⟩ := (unhide bb).free4; clear hx5))
    · go_wp2
      go_meet
      exact ⟨w5.heap.size, rfl, rfl, bx.alloc _, Blk.new _ _ _, bx.size⟩
    · go_wp2
      go_meet
      exact ⟨w3.heap.size, rfl, rfl, ext_set4 bx (Nat.le_refl _), (unhide bb).put4 (.int .i32 (co 0)) (.int .i32 (co 1)) (.int .i32 (co 2)) (.int .i32 (co 3)), Nat.le_refl _⟩
  case rest =>
  obtain ⟨bc, rfl, rfl, hcut⟩ := hcut
  rename_i wc
  have hx := (unhide hcut).1
  have hbc := (unhide hcut).2.2
  have hws : w.heap.size + 3 ≤ w3.heap.size := by have := (unhide D).1.lt; omega
  have R := hide (And.intro ((unhide D).1.ext hx) ((unhide D).2.trans hx))
  have C := hide (unhide hcut).2.1
  clear D f0 f1 f2 f3 n0 n1 n2 n3 q0 q1 a0 m12 g0 g1 g2 g3 g4 g5 HAT hcut hx
  obtain ⟨r0, r1, r2, r3⟩ := (unhide R).1.vec4
  obtain ⟨f0, f1, f2, f3⟩ := (unhide R).1.free4
  by_cases he : er = 0
  case pos =>
    have E2 : Hid (texI G a q = cut 4 co) := by rw [Hid, unhide EE, if_pos he]
    subst he
    clear EE
    obtain ⟨c0, c1, c2, c3⟩ := (unhide C).vec4
    go_wp2
    obtain ⟨p0, p1, p2, p3⟩ := lay4 (unhide R).1 (.int .i32 (co 0)) (.int .i32 (co 1)) (.int .i32 (co 2)) (.int .i32 (co 3))
    refine bodyPost_ret (v := .agg #[.int .i32 (co 0), .int .i32 (co 1), .int .i32 (co 2), .int .i32 (co 3)]) (by simp [results, Tryz.results73, go_sem, p0, p1, p2, p3]) rfl ⟨by rw [unhide E2] <;> rfl, ?_⟩
    exact ext_set4 (unhide R).2 (by omega)
  case neg =>
    have E2 : Hid (texI G a q = cut 4 blackV) := by rw [Hid, unhide EE, if_neg he]
    have d : (er == 0) = false := by simp [he]
    clear EE he
    go_wp2
    obtain ⟨p0, p1, p2, p3⟩ := lay4 (unhide R).1 (.int .i32 0) (.int .i32 0) (.int .i32 0) (.int .i32 65536)
    refine bodyPost_ret (v := .agg #[.int .i32 0, .int .i32 0, .int .i32 0, .int .i32 65536]) (by simp [results, Tryz.results73, go_sem, p0, p1, p2, p3]) rfl ⟨by rw [unhide E2] <;> rfl, ?_⟩
    exact ext_set4 (unhide R).2 (by omega)
end Go.Proofs.YtglfhmlcmffoaaaGreat

/-
  Vectors: places. What is laid at places and taken from them; within, lay.
-/
namespace Go.Proofs.YtglfhmlcmffoaaaGreat
open Go.RowKit
set_option linter.unusedVariables false

/-- Places of a vector, and no more of them than it has numbers. -/
def Good (ps : List Int) : Prop := 1 ≤ ps.length ∧ ps.length ≤ 4 ∧ ∀ i (h : i < ps.length), 0 ≤ ps[i] ∧ ps[i] < 4
/-- One stands there twice. -/
def Dup (ps : List Int) : Prop := ∃ i j, ∃ (hi : i < ps.length) (hj : j < ps.length), i < j ∧ ps[i] = ps[j]
/-- The place number i. -/
def pl (ps : List Int) (i : Nat) : Nat := (ps.getD i 0).toNat
theorem Good.at {ps : List Int} (h : Good ps) (i : Nat) (hi : i < ps.length) : ps[i] = (pl ps i : Int) ∧ pl ps i < 4 := by
  have := h.2.2 i hi
  have e : ps.getD i 0 = ps[i] := by simp [hi]
  unfold pl
  rw [e]
  omega
/-- g, with x at q. -/
def upd (g : Nat → Int) (q : Nat) (x : Int) : Nat → Int := fun i => if i = q then x else g i
theorem upd_set (g : Nat → Int) (q : Nat) (x : Int) (hq : q < 4) : (#[.int .i32 (g 0), .int .i32 (g 1), .int .i32 (g 2), .int .i32 (g 3)] : Array Value).setIfInBounds q (.int .i32 x) = #[.int .i32 (upd g q x 0), .int .i32 (upd g q x 1), .int .i32 (upd g q x 2), .int .i32 (upd g q x 3)] := by
  rcases (by omega : q = 0 ∨ q = 1 ∨ q = 2 ∨ q = 3) with rfl | rfl | rfl | rfl <;> simp [upd]
/-- a, with the first k numbers of f at the first k places. -/
def layK (a f : Nat → Int) (ps : List Int) : Nat → Nat → Int
  | 0 => a
  | k + 1 => upd (layK a f ps k) (pl ps k) (f k)
theorem layK_i32 {a f : Nat → Int} (ha : ∀ i, I32 (a i)) (hf : ∀ i, I32 (f i)) (ps : List Int) : ∀ k i, I32 (layK a f ps k i)
  | 0, i => ha i
  | k + 1, i => by
    unfold layK upd
    split
    · exact hf k
    · exact layK_i32 ha hf ps k i
/-- What lies at a place is the number of the last one that says so. -/
theorem layK_last (a f : Nat → Int) (ps : List Int) (i : Nat) : ∀ k, i < k → ∃ j, i ≤ j ∧ j < k ∧ pl ps j = pl ps i ∧ layK a f ps k (pl ps i) = f j ∧ ∀ m, m < k → pl ps m = pl ps i → m ≤ j
  | 0, h => absurd h (Nat.not_lt_zero i)
  | k + 1, h => by
    by_cases e : pl ps k = pl ps i
    · refine ⟨k, by omega, by omega, e, ?_, fun m hm _ => by omega⟩
      unfold layK upd
      rw [if_pos e.symm]
    · have hik : i < k := by
        rcases Nat.lt_or_ge i k with h1 | h1
        · exact h1
        · exact absurd (by rw [show k = i by omega]) e
      obtain ⟨j, h1, h2, h3, h4, h5⟩ := layK_last a f ps i k hik
      refine ⟨j, h1, by omega, h3, ?_, fun m hm hp => ?_⟩
      · unfold layK upd
        rw [if_neg (fun x => e x.symm)]
        exact h4
      · by_cases hmk : m = k
        · subst hmk; exact absurd hp e
        · exact h5 m (by omega) hp
theorem layK_out (a f : Nat → Int) (ps : List Int) (q : Nat) : ∀ k, (∀ j, j < k → pl ps j ≠ q) → layK a f ps k q = a q
  | 0, _ => rfl
  | k + 1, h => by
    unfold layK upd
    rw [if_neg (fun e => h k (by omega) e.symm)]
    exact layK_out a f ps q k (fun j hj => h j (by omega))

theorem Good.pl_inj {ps : List Int} (h : Good ps) {i j : Nat} (hi : i < ps.length) (hj : j < ps.length) : pl ps i = pl ps j ↔ ps[i] = ps[j] := by
  have h1 := (h.at i hi).1
  have h2 := (h.at j hj).1
  rw [h1, h2]
  omega

set_option maxHeartbeats 1000000 in
theorem withinV_any (ao : Option Addr) (cap : Nat) (ps : List Int) (r : Bool) (w : World) (hrow : Row .i64 w (.slice ao ps.length cap) ps) (hr : r = true ↔ Good ps) :
    Calls Tryz.prog 113 #[.slice ao ps.length cap] w fun e w' => e = .returned (.bool r) ∧ w' = w := by
  have HR := hide hrow
  have HG := hide hr
  have hcm : ps.length ≤ maxLen := by
    obtain ⟨_, _, h, _, h2, h3⟩ := hrow.shape
    cases h
    omega
  unfold maxLen at hcm
  clear hrow hr
  go_enter Tryz.func113, Tryz.ntmps113
  by_cases h1 : ps.length < 1
  · have d1 : decide ((ps.length : Int) < 1) = true := by simp; omega
    have hf : Hid (r = false) := by
      cases r with
      | false => rfl
      | true => have := (unhide HG).1 rfl; unfold Good at this; omega
    go_wp2
    go_ret
    exact ⟨by rw [unhide hf]; rfl, rfl⟩
  · have d1 : decide ((ps.length : Int) < 1) = false := by simp; omega
    by_cases h4 : 4 < ps.length
    · have d4 : decide ((4 : Int) < (ps.length : Int)) = true := by simp; omega
      have hf : Hid (r = false) := by
        cases r with
        | false => rfl
        | true => have := (unhide HG).1 rfl; unfold Good at this; omega
      go_wp2
      go_ret
      exact ⟨by rw [unhide hf]; rfl, rfl⟩
    · have d4 : decide ((4 : Int) < (ps.length : Int)) = false := by simp; omega
      go_wp2
      go_loopw [15] (fun i wr => ∃ k : Nat, k ≤ ps.length ∧ i = .int .i64 k ∧ wr = w ∧ ∀ j (h : j < ps.length), j < k → 0 ≤ ps[j] ∧ ps[j] < 4) (fun i _ => ps.length - (intOf i).toNat)
      case atStart => exact ⟨0, by omega, rfl, rfl, fun _ _ h => absurd h (Nat.not_lt_zero _)⟩
      case round =>
        obtain ⟨k, hk, rfl, rfl, hall⟩ := hrel
        have HA := hide hall
        clear hall
        by_cases hlt : k < ps.length
        · obtain ⟨b, off, rfl, hc⟩ := (unhide HR).at k hlt
          have hck := hc k hlt
          have hg : Hid (r = true → 0 ≤ ps[k] ∧ ps[k] < 4) := fun h => ((unhide HG).1 h).2.2 k hlt
          clear hc
          obtain ⟨p, hp⟩ : ∃ p, Hid (ps[k] = p) := ⟨ps[k], hide rfl⟩
          rw [unhide hp] at hck
          have hg2 : Hid (r = true → 0 ≤ p ∧ p < 4) := by rw [← unhide hp]; exact hg
          by_cases hp0 : p < 0
          · have e0 : decide (p < 0) = true := by simp; omega
            have hf : Hid (r = false) := by
              cases r with
              | false => rfl
              | true => have := (unhide hg2) rfl; omega
            go_wp2
            go_ret
            exact ⟨by rw [unhide hf]; rfl, rfl⟩
          · have e0 : decide (p < 0) = false := by simp; omega
            by_cases hp4 : 4 ≤ p
            · have e4 : decide (4 ≤ p) = true := by simp; omega
              have hf : Hid (r = false) := by
                cases r with
                | false => rfl
                | true => have := (unhide hg2) rfl; omega
              go_wp2
              go_ret
              exact ⟨by rw [unhide hf]; rfl, rfl⟩
            · have e4 : decide (4 ≤ p) = false := by simp; omega
              go_wp2
              go_roundw
              case rel =>
                refine ⟨k + 1, by omega, by go_num, by first | rfl | trivial, fun j h hj => ?_⟩
                by_cases hjk : j = k
                · subst hjk
                  have := unhide hp
                  omega
                · exact unhide HA j h (by omega)
              case measure => simp [intOf]; omega
        · have hf : Hid (r = true) := (unhide HG).2 ⟨by omega, by omega, fun i hi => unhide HA i hi (by omega)⟩
          go_wp2
          go_ret
          exact ⟨by rw [unhide hf]; rfl, rfl⟩

set_option maxHeartbeats 1000000 in
theorem layV_any (a f : Nat → Int) (ao : Option Addr) (cap : Nat) (ps : List Int) (w : World) (hrow : Row .i64 w (.slice ao ps.length cap) ps) (hg : Good ps) :
    Calls Tryz.prog 117 #[.agg #[.int .i32 (a 0), .int .i32 (a 1), .int .i32 (a 2), .int .i32 (a 3)], .agg #[.int .i32 (f 0), .int .i32 (f 1), .int .i32 (f 2), .int .i32 (f 3)], .slice ao ps.length cap] w fun e w' => e = .returned (.agg #[.int .i32 (layK a f ps ps.length 0), .int .i32 (layK a f ps ps.length 1), .int .i32 (layK a f ps ps.length 2), .int .i32 (layK a f ps ps.length 3)]) ∧ Ext w w' := by
  have HR := hide hrow
  have HG := hide hg
  have hl4 := hg.2.1
  have X0 : Hid (Ext w (((w.alloc (.cells #[.int .i32 (a 0), .int .i32 (a 1), .int .i32 (a 2), .int .i32 (a 3)] 28)).alloc (.cells #[.int .i32 (f 0), .int .i32 (f 1), .int .i32 (f 2), .int .i32 (f 3)] 28)).alloc (.cells #[.int .i32 0, .int .i32 0, .int .i32 0, .int .i32 0] 28))) := (((Ext.refl w).alloc _).alloc _).alloc _
  clear hrow hg
  go_enter Tryz.func117, Tryz.ntmps117
  go_wp2
  go_loopw [11] (fun i wr => ∃ k : Nat, k ≤ ps.length ∧ i = .int .i64 k ∧ Blk wr w.heap.size #[.int .i32 (layK a f ps k 0), .int .i32 (layK a f ps k 1), .int .i32 (layK a f ps k 2), .int .i32 (layK a f ps k 3)] 28 ∧ Blk wr (w.heap.size + 1) #[.int .i32 (f 0), .int .i32 (f 1), .int .i32 (f 2), .int .i32 (f 3)] 28 ∧ Blk wr (w.heap.size + 1 + 1) #[.int .i32 (nul 0), .int .i32 (nul 1), .int .i32 (nul 2), .int .i32 (nul 3)] 28 ∧ Ext w wr) (fun i _ => ps.length - (intOf i).toNat)
  case atStart => exact ⟨0, by omega, rfl, ((Blk.at rfl).alloc _).alloc _, (Blk.at (by simp)).alloc _, Blk.at (by simp), unhide X0⟩
  case round =>
    obtain ⟨k, hk, rfl, hb0, hb1, hb2, hx⟩ := hrel
    have D := hide (And.intro hb0 (And.intro hb1 (And.intro hb2 hx)))
    clear hb0 hb1 hb2 hx X0
    by_cases hlt : k < ps.length
    · obtain ⟨b, off, rfl, hc⟩ := ((unhide HR).ext (unhide D).2.2.2).at k hlt
      have hck := hc k hlt
      clear hc
      have hq := (unhide HG).at k hlt
      rw [hq.1] at hck
      have hq4 := hq.2
      clear hq
      obtain ⟨q, hq⟩ : ∃ q, Hid (pl ps k = q) := ⟨pl ps k, hide rfl⟩
      rw [unhide hq] at hck hq4
      have hqi : (q : Int) < 4 := by omega
      have hki : (k : Int) < 4 := by omega
      have c1 := (unhide D).2.1.vec k (by omega)
      have c0 := (unhide D).1.vec q hq4
      have f0 := (unhide D).1.free q
      go_wp2
      go_roundw
      case rel =>
        refine ⟨k + 1, by omega, by go_num, ?_, (unhide D).2.1.other q _ (by omega), (unhide D).2.2.1.other q _ (by omega), ext_set (unhide D).2.2.2 (by omega)⟩
        have := (unhide D).1.set q (.int .i32 (f k))
        rw [upd_set _ _ _ hq4, ← unhide hq] at this
        rw [← unhide hq]
        exact this
      case measure => simp [intOf]; omega
    · obtain rfl : k = ps.length := by omega
      obtain ⟨c0, c1, c2, c3⟩ := (unhide D).1.vec4
      obtain ⟨r0, r1, r2, r3⟩ := (unhide D).2.2.1.vec4
      obtain ⟨f0, f1, f2, f3⟩ := (unhide D).2.2.1.free4
      go_wp2
      obtain ⟨q0, q1, q2, q3⟩ := lay4 (unhide D).2.2.1 (.int .i32 (layK a f ps ps.length 0)) (.int .i32 (layK a f ps ps.length 1)) (.int .i32 (layK a f ps ps.length 2)) (.int .i32 (layK a f ps ps.length 3))
      refine bodyPost_ret (v := .agg #[.int .i32 (layK a f ps ps.length 0), .int .i32 (layK a f ps ps.length 1), .int .i32 (layK a f ps ps.length 2), .int .i32 (layK a f ps ps.length 3)]) (by simp [results, Tryz.results117, go_sem, q0, q1, q2, q3]) rfl ⟨rfl, ?_⟩
      exact ext_set4 (unhide D).2.2.2 (by omega)

end Go.Proofs.YtglfhmlcmffoaaaGreat

/-
  Vectors: Pick, Put.
-/
namespace Go.Proofs.YtglfhmlcmffoaaaGreat
open Go.RowKit
set_option linter.unusedVariables false

theorem pick1_any (i : Nat) (a : Nat → Int) (ao : Option Addr) (cap : Nat) (ps : List Int) (ba bp : Nat) (w : World) (hrow : Row .i64 w (.slice ao ps.length cap) ps) (hg : Good ps) (hi : i < ps.length)
    (hp : w.cell? ⟨bp, 0, none⟩ = some (.slice ao ps.length cap)) (ha : Blk w ba #[.int .i32 (a 0), .int .i32 (a 1), .int .i32 (a 2), .int .i32 (a 3)] 28) :
    Calls Tryz.prog 115 #[.int .i64 i, .pointer (some ⟨ba, 0, none⟩), .pointer (some ⟨bp, 0, none⟩)] w fun e w' => e = .returned (.int .i32 (a (pl ps i))) ∧ Ext w w' := by
  obtain ⟨b, off, rfl, hc⟩ := hrow.at i hi
  have hck := hc i hi
  have hq := hg.at i hi
  rw [hq.1] at hck
  have hq4 := hq.2
  have ca := ha.vec _ hq4
  have hqi : (pl ps i : Int) < 4 := by omega
  generalize pl ps i = q at *
  clear hc hq hrow hg ha
  go_enter Tryz.func115, Tryz.ntmps115
  go_wp2
  go_ret
  exact ⟨rfl, Ext.refl w⟩

theorem pick1_enters : ∀ args w, (callFunc 115 args).run Tryz.prog w = .ok (.enter 115 args) w := enters_of Tryz.func115 (by kernel_rfl) rfl

set_option maxHeartbeats 1000000 in
theorem pick_any (a : Nat → Int) (ao : Option Addr) (cap : Nat) (ps : List Int) (w : World) (hrow : Row .i64 w (.slice ao ps.length cap) ps) (hg : Good ps) :
    Calls Tryz.prog 70 #[.agg #[.int .i32 (a 0), .int .i32 (a 1), .int .i32 (a 2), .int .i32 (a 3)], .slice ao ps.length cap] w fun e w' => e = .returned (.tuple #[.agg #[.int .i32 (cut ps.length (fun i => a (pl ps i)) 0), .int .i32 (cut ps.length (fun i => a (pl ps i)) 1), .int .i32 (cut ps.length (fun i => a (pl ps i)) 2), .int .i32 (cut ps.length (fun i => a (pl ps i)) 3)], .int .i64 0]) ∧ Ext w w' := by
  have HR := hide hrow
  have HG := hide hg
  have hl1 := hg.1
  have hl4 := hg.2.1
  have h1 : 1 ≤ (ps.length : Int) := by omega
  have h4 : (ps.length : Int) ≤ 4 := by omega
  clear hrow hg
  go_enter Tryz.func70, Tryz.ntmps70
  go_wp2_with fail
  refine (withinV_any ao cap ps true _ ((unhide HR).ext ((((Ext.refl w).alloc _).alloc _).alloc _)) ⟨fun _ => unhide HG, fun _ => rfl⟩).mono ?_
  rintro e w1 ⟨rfl, rfl⟩
  go_wp2_with fail
  refine (each_any ps.length 115 _ (fun i => a (pl ps i)) _ h1 h4 pick1_enters (by
    intro i W hi hin hx
    exact pick1_any i a ao cap ps _ _ W ((unhide HR).ext (((((Ext.refl w).alloc _).alloc _).alloc _).trans hx)) (unhide HG) (by omega) ((((Blk.at (by simp)).alloc _).ext hx).cell rfl) ((((Blk.at rfl).alloc _).alloc _).ext hx))).mono ?_
  rintro e w1 ⟨rfl, hx⟩
  have R := hide (And.intro ((Blk.at (b := w.heap.size + 1 + 1) (by simp)).ext hx) (((((Ext.refl w).alloc _).alloc _).alloc _).trans hx))
  clear hx
  obtain ⟨r0, r1, r2, r3⟩ := Blk.vec4 (a := nul) (unhide R).1
  obtain ⟨f0, f1, f2, f3⟩ := (unhide R).1.free4
  go_wp2
  obtain ⟨q0, q1, q2, q3⟩ := lay4 (a := nul) (unhide R).1 (.int .i32 (cut ps.length (fun i => a (pl ps i)) 0)) (.int .i32 (cut ps.length (fun i => a (pl ps i)) 1)) (.int .i32 (cut ps.length (fun i => a (pl ps i)) 2)) (.int .i32 (cut ps.length (fun i => a (pl ps i)) 3))
  refine bodyPost_ret (v := .tuple #[.agg #[.int .i32 (cut ps.length (fun i => a (pl ps i)) 0), .int .i32 (cut ps.length (fun i => a (pl ps i)) 1), .int .i32 (cut ps.length (fun i => a (pl ps i)) 2), .int .i32 (cut ps.length (fun i => a (pl ps i)) 3)], .int .i64 0]) (by simp [results, Tryz.results70, go_sem, q0, q1, q2, q3]) rfl ⟨rfl, ?_⟩
  exact ext_set4 (unhide R).2 (by omega)

theorem pick_bad (a : Nat → Int) (ao : Option Addr) (cap : Nat) (ps : List Int) (w : World) (hrow : Row .i64 w (.slice ao ps.length cap) ps) (hg : ¬ Good ps) :
    Calls Tryz.prog 70 #[.agg #[.int .i32 (a 0), .int .i32 (a 1), .int .i32 (a 2), .int .i32 (a 3)], .slice ao ps.length cap] w fun e w' => e = .returned (.tuple #[.agg #[.int .i32 0, .int .i32 0, .int .i32 0, .int .i32 0], .int .i64 2]) ∧ Ext w w' := by
  have HR := hide hrow
  clear hrow
  go_enter Tryz.func70, Tryz.ntmps70
  go_wp2_with fail
  refine (withinV_any ao cap ps false _ ((unhide HR).ext ((((Ext.refl w).alloc _).alloc _).alloc _)) ⟨fun h => (by cases h), fun h => absurd h hg⟩).mono ?_
  rintro e w1 ⟨rfl, rfl⟩
  go_wp2
  refine bodyPost_ret (v := .tuple #[.agg #[.int .i32 0, .int .i32 0, .int .i32 0, .int .i32 0], .int .i64 2]) (by simp [results, Tryz.results70, go_sem]) rfl ⟨rfl, ?_⟩
  exact (((Ext.refl w).alloc _).alloc _).alloc _

theorem twice1_any (i : Nat) (hi : i < 4) (w : World) :
    Calls Tryz.prog 156 #[.int .i64 i] w fun e w' => e = .returned (.int .i32 ((i : Int) + 1)) ∧ Ext w w' := by
  go_enter Tryz.func156, Tryz.ntmps156
  have h : (i : Int) < 4 := by omega
  go_wp2
  go_ret
  exact ⟨rfl, Ext.refl w⟩

theorem twice1_enters : ∀ args w, (callFunc 156 args).run Tryz.prog w = .ok (.enter 156 args) w := enters_of Tryz.func156 (by kernel_rfl) rfl

theorem cut_in_marks {n : Int} {f : Nat → Int} {i : Nat} (h : (i : Int) < n) : cut n f i = f i := by unfold cut; rw [if_pos h]

/-- The marks, and what is taken of them back. -/
def marks (ps : List Int) : Nat → Int := cut ps.length (fun i => (i : Int) + 1)
def marksBack (ps : List Int) : Nat → Int := cut ps.length (fun i => layK nul (marks ps) ps ps.length (pl ps i))

theorem back_same {ps : List Int} (hg : Good ps) (hn : ¬ Dup ps) : marksBack ps = marks ps := by
  refine cut_congr fun i hi => ?_
  have hil : i < ps.length := by omega
  obtain ⟨j, h1, h2, h3, h4, _⟩ := layK_last nul (marks ps) ps i ps.length hil
  rw [h4]
  by_cases e : i = j
  · subst e
    unfold marks
    exact cut_in_marks hi
  · exact absurd ⟨i, j, hil, h2, by omega, ((hg.pl_inj hil h2).1 h3.symm)⟩ hn

theorem back_other {ps : List Int} (hg : Good ps) (hd : Dup ps) : ∃ i, i < 4 ∧ marksBack ps i ≠ marks ps i := by
  obtain ⟨i, j, hi, hj, hij, he⟩ := hd
  have hl := hg.2.1
  refine ⟨i, by omega, ?_⟩
  obtain ⟨m, h1, h2, h3, h4, h5⟩ := layK_last nul (marks ps) ps i ps.length hi
  have hm := h5 j hj ((hg.pl_inj hj hi).2 he.symm)
  unfold marksBack
  rw [cut_in_marks (by omega), h4]
  unfold marks
  rw [cut_in_marks (by omega), cut_in_marks (by omega)]
  omega

theorem back_test {ps : List Int} (hg : Good ps) (r : Bool) (hr : r = true ↔ Dup ps) :
    (!(marksBack ps 0 == marks ps 0) || (!(marksBack ps 1 == marks ps 1) || (!(marksBack ps 2 == marks ps 2) || !(marksBack ps 3 == marks ps 3)))) = r := by
  cases r with
  | true =>
    obtain ⟨i, hi, hne⟩ := back_other hg (hr.1 rfl)
    rcases (by omega : i = 0 ∨ i = 1 ∨ i = 2 ∨ i = 3) with rfl | rfl | rfl | rfl <;> simp [hne]
  | false =>
    rw [back_same hg (fun h => by have := hr.2 h; cases this)]
    simp

set_option maxHeartbeats 1000000 in
theorem twiceV_any (ao : Option Addr) (cap : Nat) (ps : List Int) (r : Bool) (w : World) (hrow : Row .i64 w (.slice ao ps.length cap) ps) (hg : Good ps) (hr : r = true ↔ Dup ps) :
    Calls Tryz.prog 116 #[.slice ao ps.length cap] w fun e w' => e = .returned (.bool r) ∧ Ext w w' := by
  have hE := eqV
  have HR := hide hrow
  have HG := hide hg
  have HT := hide (back_test hg r hr)
  have hl1 := hg.1
  have hl4 := hg.2.1
  have h1 : 1 ≤ (ps.length : Int) := by omega
  have h4 : (ps.length : Int) ≤ 4 := by omega
  clear hrow hg hr
  go_enter Tryz.func116, Tryz.ntmps116
  go_wp2_with fail
  refine (each_any ps.length 156 _ (fun i => (i : Int) + 1) _ h1 h4 twice1_enters (by
    intro i W hi hin hx
    exact twice1_any i hi W)).mono ?_
  rintro e w1 ⟨rfl, hx⟩
  rw [show cut (ps.length : Int) (fun i => (i : Int) + 1) = marks ps from rfl]
  have M := hide (Blk.at (w := w1) (cs := #[.int .i32 (marks ps 0), .int .i32 (marks ps 1), .int .i32 (marks ps 2), .int .i32 (marks ps 3)]) (t := 28) rfl)
  have X := hide (hx.alloc (.cells #[.int .i32 (marks ps 0), .int .i32 (marks ps 1), .int .i32 (marks ps 2), .int .i32 (marks ps 3)] 28))
  clear hx
  go_wp2_with fail
  refine (layV_any nul (marks ps) ao cap ps _ ((unhide HR).ext (unhide X)) (unhide HG)).mono ?_
  rintro e w2 ⟨rfl, hx⟩
  have M2 := hide ((unhide M).ext hx)
  have X2 := hide ((unhide X).trans hx)
  clear hx M X
  go_wp2_with fail
  refine (pick_any (layK nul (marks ps) ps ps.length) ao cap ps _ ((unhide HR).ext (unhide X2)) (unhide HG)).mono ?_
  rintro e w3 ⟨rfl, hx⟩
  rw [show cut (ps.length : Int) (fun i => layK nul (marks ps) ps ps.length (pl ps i)) = marksBack ps from rfl]
  have M3 := hide (((unhide M2).ext hx).alloc (.cells #[.int .i32 (marksBack ps 0), .int .i32 (marksBack ps 1), .int .i32 (marksBack ps 2), .int .i32 (marksBack ps 3)] 28))
  have X3 := hide (((unhide X2).trans hx).alloc (.cells #[.int .i32 (marksBack ps 0), .int .i32 (marksBack ps 1), .int .i32 (marksBack ps 2), .int .i32 (marksBack ps 3)] 28))
  clear hx M2 X2
  obtain ⟨c0, c1, c2, c3⟩ := (unhide M3).vec4
  go_wp2
  go_ret
  exact ⟨by rw [← unhide HT]; rfl, unhide X3⟩

set_option maxHeartbeats 1000000 in
theorem putV_any (a f : Nat → Int) (ao : Option Addr) (cap : Nat) (ps : List Int) (w : World) (hrow : Row .i64 w (.slice ao ps.length cap) ps) (hg : Good ps) (hn : ¬ Dup ps) :
    Calls Tryz.prog 71 #[.agg #[.int .i32 (a 0), .int .i32 (a 1), .int .i32 (a 2), .int .i32 (a 3)], .agg #[.int .i32 (f 0), .int .i32 (f 1), .int .i32 (f 2), .int .i32 (f 3)], .slice ao ps.length cap] w fun e w' => e = .returned (.tuple #[.agg #[.int .i32 (layK a f ps ps.length 0), .int .i32 (layK a f ps ps.length 1), .int .i32 (layK a f ps ps.length 2), .int .i32 (layK a f ps ps.length 3)], .int .i64 0]) ∧ Ext w w' := by
  have HR := hide hrow
  have HG := hide hg
  clear hrow hg
  have W0 : Hid (Ext w (((w.alloc (.cells #[.int .i32 (a 0), .int .i32 (a 1), .int .i32 (a 2), .int .i32 (a 3)] 28)).alloc (.cells #[.int .i32 (f 0), .int .i32 (f 1), .int .i32 (f 2), .int .i32 (f 3)] 28)).alloc (.cells #[.int .i32 0, .int .i32 0, .int .i32 0, .int .i32 0] 28))) := (((Ext.refl w).alloc _).alloc _).alloc _
  go_enter Tryz.func71, Tryz.ntmps71
  go_wp2_with fail
  refine (withinV_any ao cap ps true _ ((unhide HR).ext (unhide W0)) ⟨fun _ => unhide HG, fun _ => rfl⟩).mono ?_
  rintro e w1 ⟨rfl, rfl⟩
  go_wp2_with fail
  refine (twiceV_any ao cap ps false _ ((unhide HR).ext (unhide W0)) (unhide HG) ⟨fun h => (by cases h), fun h => absurd h hn⟩).mono ?_
  rintro e w1 ⟨rfl, hx⟩
  have B0 := hide ((((Blk.at (b := w.heap.size) (cs := #[.int .i32 (a 0), .int .i32 (a 1), .int .i32 (a 2), .int .i32 (a 3)]) (t := 28) rfl).alloc _).alloc _).ext hx)
  have B1 := hide (((Blk.at (b := w.heap.size + 1) (cs := #[.int .i32 (f 0), .int .i32 (f 1), .int .i32 (f 2), .int .i32 (f 3)]) (t := 28) (by simp)).alloc _).ext hx)
  have B2 := hide ((Blk.at (b := w.heap.size + 1 + 1) (cs := #[.int .i32 (nul 0), .int .i32 (nul 1), .int .i32 (nul 2), .int .i32 (nul 3)]) (t := 28) (by simp)).ext hx)
  have X := hide ((unhide W0).trans hx)
  clear hx W0
  obtain ⟨c0, c1, c2, c3⟩ := (unhide B0).vec4
  obtain ⟨e0, e1, e2, e3⟩ := (unhide B1).vec4
  go_wp2_with fail
  refine (layV_any a f ao cap ps _ ((unhide HR).ext (unhide X)) (unhide HG)).mono ?_
  rintro e w2 ⟨rfl, hx⟩
  have R := hide (And.intro ((unhide B2).ext hx) ((unhide X).trans hx))
  clear hx c0 c1 c2 c3 e0 e1 e2 e3
  obtain ⟨r0, r1, r2, r3⟩ := Blk.vec4 (a := nul) (unhide R).1
  obtain ⟨f0, f1, f2, f3⟩ := (unhide R).1.free4
  go_wp2
  obtain ⟨q0, q1, q2, q3⟩ := lay4 (a := nul) (unhide R).1 (.int .i32 (layK a f ps ps.length 0)) (.int .i32 (layK a f ps ps.length 1)) (.int .i32 (layK a f ps ps.length 2)) (.int .i32 (layK a f ps ps.length 3))
  refine bodyPost_ret (v := .tuple #[.agg #[.int .i32 (layK a f ps ps.length 0), .int .i32 (layK a f ps ps.length 1), .int .i32 (layK a f ps ps.length 2), .int .i32 (layK a f ps ps.length 3)], .int .i64 0]) (by simp [results, Tryz.results71, go_sem, q0, q1, q2, q3]) rfl ⟨rfl, ?_⟩
  exact ext_set4 (unhide R).2 (by omega)

set_option maxHeartbeats 1000000 in
theorem putV_bad (a f : Nat → Int) (ao : Option Addr) (cap : Nat) (ps : List Int) (w : World) (hrow : Row .i64 w (.slice ao ps.length cap) ps) (hg : ¬ (Good ps ∧ ¬ Dup ps)) :
    Calls Tryz.prog 71 #[.agg #[.int .i32 (a 0), .int .i32 (a 1), .int .i32 (a 2), .int .i32 (a 3)], .agg #[.int .i32 (f 0), .int .i32 (f 1), .int .i32 (f 2), .int .i32 (f 3)], .slice ao ps.length cap] w fun e w' => e = .returned (.tuple #[.agg #[.int .i32 0, .int .i32 0, .int .i32 0, .int .i32 0], .int .i64 2]) ∧ Ext w w' := by
  have HR := hide hrow
  clear hrow
  have W0 : Hid (Ext w (((w.alloc (.cells #[.int .i32 (a 0), .int .i32 (a 1), .int .i32 (a 2), .int .i32 (a 3)] 28)).alloc (.cells #[.int .i32 (f 0), .int .i32 (f 1), .int .i32 (f 2), .int .i32 (f 3)] 28)).alloc (.cells #[.int .i32 0, .int .i32 0, .int .i32 0, .int .i32 0] 28))) := (((Ext.refl w).alloc _).alloc _).alloc _
  go_enter Tryz.func71, Tryz.ntmps71
  by_cases h : Good ps
  · have hd : Dup ps := Classical.byContradiction fun hn => hg ⟨h, hn⟩
    go_wp2_with fail
    refine (withinV_any ao cap ps true _ ((unhide HR).ext (unhide W0)) ⟨fun _ => h, fun _ => rfl⟩).mono ?_
    rintro e w1 ⟨rfl, rfl⟩
    go_wp2_with fail
    refine (twiceV_any ao cap ps true _ ((unhide HR).ext (unhide W0)) h ⟨fun _ => hd, fun _ => rfl⟩).mono ?_
    rintro e w1 ⟨rfl, hx⟩
    have B2 := hide ((Blk.at (b := w.heap.size + 1 + 1) (cs := #[.int .i32 (nul 0), .int .i32 (nul 1), .int .i32 (nul 2), .int .i32 (nul 3)]) (t := 28) (by simp)).ext hx)
    have X := hide ((unhide W0).trans hx)
    clear hx W0
    obtain ⟨r0, r1, r2, r3⟩ := Blk.vec4 (a := nul) (unhide B2)
    obtain ⟨f0, f1, f2, f3⟩ := (unhide B2).free4
    go_wp2
    obtain ⟨q0, q1, q2, q3⟩ := lay4 (a := nul) (unhide B2) (.int .i32 0) (.int .i32 0) (.int .i32 0) (.int .i32 0)
    refine bodyPost_ret (v := .tuple #[.agg #[.int .i32 0, .int .i32 0, .int .i32 0, .int .i32 0], .int .i64 2]) (by simp [results, Tryz.results71, go_sem, q0, q1, q2, q3]) rfl ⟨rfl, ?_⟩
    exact ext_set4 (unhide X) (by omega)
  · go_wp2_with fail
    refine (withinV_any ao cap ps false _ ((unhide HR).ext (unhide W0)) ⟨fun h => (by cases h), fun x => absurd x h⟩).mono ?_
    rintro e w1 ⟨rfl, rfl⟩
    go_wp2
    refine bodyPost_ret (v := .tuple #[.agg #[.int .i32 0, .int .i32 0, .int .i32 0, .int .i32 0], .int .i64 2]) (by simp [results, Tryz.results71, go_sem]) rfl ⟨rfl, ?_⟩
    exact unhide W0

end Go.Proofs.YtglfhmlcmffoaaaGreat

/-
  The machine of registers: what its rows of registers hold; which places an instruction has.
-/
namespace Go.Proofs.YtglfhmlcmffoaaaGreat
open Go.RowKit
set_option linter.unusedVariables false
set_option linter.unusedSimpArgs false

/-- A row of vectors that has some. -/
theorem VRow.slc {w : World} {v : Value} {L : List (Nat → Int)} (h : VRow w v L) (hne : 0 < L.length) :
    ∃ b off cap, v = .slice (some ⟨b, off, none⟩) L.length cap ∧ b < w.heap.size ∧ ∀ x : Int, 0 ≤ x → x < (L.length : Int) → ∃ k : Nat, x = (k : Int) ∧ (k : Int) < (L.length : Int) ∧ w.cell? ⟨b, off + k * 4, none⟩ = some (.int .i32 (Go.Proofs.YtglfhmlcmffoaaaGreat.reg L x 0)) ∧ w.cell? ⟨b, off + k * 4 + 1, none⟩ = some (.int .i32 (Go.Proofs.YtglfhmlcmffoaaaGreat.reg L x 1)) ∧ w.cell? ⟨b, off + k * 4 + 2, none⟩ = some (.int .i32 (Go.Proofs.YtglfhmlcmffoaaaGreat.reg L x 2)) ∧ w.cell? ⟨b, off + k * 4 + 3, none⟩ = some (.int .i32 (Go.Proofs.YtglfhmlcmffoaaaGreat.reg L x 3)) := by
  rcases h with ⟨rfl, _⟩ | ⟨_, b, off, cap, rfl, hc⟩
  · simp at hne
  · refine ⟨b, off, cap, rfl, World.block_lt_of_cell? w _ (hc 0 0 hne (by omega)), fun x h0 h1 => ?_⟩
    obtain ⟨k, rfl⟩ : ∃ k : Nat, x = (k : Int) := ⟨x.toNat, by omega⟩
    have hk : k < L.length := by omega
    have e : Go.Proofs.YtglfhmlcmffoaaaGreat.reg L (k : Int) = L.getD k nul := by unfold Go.Proofs.YtglfhmlcmffoaaaGreat.reg; rw [Int.toNat_natCast]
    rw [e]
    exact ⟨k, rfl, h1, hc k 0 hk (by omega), hc k 1 hk (by omega), hc k 2 hk (by omega), hc k 3 hk (by omega)⟩
/-- The places that count. -/
def pcs (I : Nat → Int) : List Int := (plcs I).take (I 3).toNat
theorem pcs_len {I : Nat → Int} (h : 1 ≤ I 3 ∧ I 3 ≤ 4) : (pcs I).length = (I 3).toNat := by
  unfold pcs plcs
  simp
  omega
theorem pcs_get (I : Nat → Int) (i : Nat) (hi : i < (I 3).toNat) (h : i < 4) : (pcs I)[i]? = some (I (12 + i)) := by
  unfold pcs
  rw [List.getElem?_take_of_lt hi]
  rcases (by omega : i = 0 ∨ i = 1 ∨ i = 2 ∨ i = 3) with rfl | rfl | rfl | rfl <;> rfl
theorem pcs_row {w : World} {b : Nat} {I : Nat → Int} (h : Blk w b (insA I) 59) (hn : 1 ≤ I 3 ∧ I 3 ≤ 4) : Row .i64 w (.slice (some ⟨b, 12, none⟩) (pcs I).length 4) (pcs I) := by
  have hl := pcs_len hn
  refine .inr ⟨fun e => by rw [e] at hl; simp at hl; omega, b, 12, 4, rfl, by omega, by unfold maxLen; decide, fun i hi => ?_⟩
  have h4 : i < 4 := by omega
  have e : (pcs I).getD i 0 = I (12 + i) := by
    rw [List.getD_eq_getElem?_getD, pcs_get I i (by omega) h4]
    rfl
  rw [e]
  refine h.cell ?_
  rcases (by omega : i = 0 ∨ i = 1 ∨ i = 2 ∨ i = 3) with rfl | rfl | rfl | rfl <;> rfl
theorem inB4 {x : Int} (h : inB x 4 = true) : 0 ≤ x ∧ x < 4 := by
  unfold inB at h
  simp at h
  exact h
theorem pcs_good {I : Nat → Int} (hn : 1 ≤ I 3 ∧ I 3 ≤ 4) (h : plcB I = true) : Good (pcs I) := by
  have hl := pcs_len hn
  refine ⟨by omega, by omega, fun i hi => ?_⟩
  have h4 : i < 4 := by omega
  have e : (pcs I)[i] = I (12 + i) := (List.getElem?_eq_some_iff.1 (pcs_get I i (by omega) h4)).2
  rw [e]
  unfold plcB at h
  simp only [Bool.and_eq_true] at h
  obtain ⟨h0, h1, h2, h3⟩ := h
  rcases (by omega : i = 0 ∨ i = 1 ∨ i = 2 ∨ i = 3) with rfl | rfl | rfl | rfl
  · exact inB4 h0
  · exact inB4 h1
  · exact inB4 h2
  · exact inB4 h3
theorem tw_dup : ∀ (l : List Int), twB l = false → ∀ i j, ∀ (hi : i < l.length) (hj : j < l.length), i < j → l[i] ≠ l[j]
  | [], _, i, j, hi, _, _ => by simp at hi
  | x :: r, h, i, j, hi, hj, hlt => by
    unfold twB at h
    simp only [Bool.or_eq_false_iff] at h
    match i, j, hi, hj, hlt with
    | 0, j + 1, _, hj, _ =>
      intro e
      have hj' : j < r.length := by simpa using hj
      have : x ∈ r := by
        have e2 : x = r[j] := by simpa using e
        rw [e2]
        exact List.getElem_mem hj'
      rw [List.contains_iff_mem.2 this] at h
      exact absurd h.1 (by decide)
    | i + 1, j + 1, hi, hj, hlt =>
      have := tw_dup r h.2 i j (by simpa using hi) (by simpa using hj) (by omega)
      simpa using this
theorem pcs_once {I : Nat → Int} (h : twB (pcs I) = false) : ¬ Dup (pcs I) := fun ⟨i, j, hi, hj, hlt, e⟩ => tw_dup _ h i j hi hj hlt e
theorem cell_grown {w w' : World} {r b i : Nat} {v : Value} (hg : w.grownBy w' (some r)) (h : w.cell? ⟨b, i, none⟩ = some v) (hne : b ≠ r) : w'.cell? ⟨b, i, none⟩ = some v := by
  rw [World.cell?_of_block (w := w) (hg.block b (World.block_lt_of_cell? w _ h) (by simpa using hne))]
  exact h
theorem grown_ofExt {w w1 : World} (r : Nat) (hx : Ext w w1) : w.grownBy w1 (some r) := ⟨hx.os, hx.tape, hx.output, hx.size, fun i hi _ => hx.block i hi⟩
theorem grown_set4 {w w1 : World} {r i0 i1 i2 i3 : Nat} {a0 a1 a2 a3 : Value} (hx : Ext w w1) : w.grownBy ((((w1.setCell ⟨r, i0, none⟩ a0).setCell ⟨r, i1, none⟩ a1).setCell ⟨r, i2, none⟩ a2).setCell ⟨r, i3, none⟩ a3) (some r) :=
  ((((grown_ofExt r hx).trans (grownBy_set w1 r i0 _)).trans (grownBy_set _ r i1 _)).trans (grownBy_set _ r i2 _)).trans (grownBy_set _ r i3 _)
end Go.Proofs.YtglfhmlcmffoaaaGreat

/-
  Codes that may be: what follows for their registers and instructions, plainly.
-/
namespace Go.Proofs.YtglfhmlcmffoaaaGreat
open Go.RowKit
set_option linter.unusedVariables false
set_option linter.unusedSimpArgs false

def OkI (I : Nat → Int) : Prop := (∀ k, k < 8 → -9223372036854775808 ≤ I k ∧ I k ≤ 9223372036854775807) ∧ (∀ k, k < 4 → -2147483648 ≤ I (8 + k) ∧ I (8 + k) ≤ 2147483647) ∧ (∀ k, k < 4 → -9223372036854775808 ≤ I (12 + k) ∧ I (12 + k) ≤ 9223372036854775807)
theorem inB_iff (x n : Int) : inB x n = true ↔ 0 ≤ x ∧ x < n := by simp [inB]
theorem may_regs {C : Cod} (h : mayP C = true) : C.ins.length ≤ 4096 ∧ 0 ≤ C.regs ∧ C.regs ≤ 1024 := by
  simp only [mayP, Bool.and_eq_true, decide_eq_true_eq] at h
  refine ⟨h.2.1, ?_⟩
  have h1 := h.1
  unfold headB at h1
  split at h1
  · simp only [Bool.and_eq_true, inB_iff] at h1
    omega
  · split at h1
    · simp only [Bool.and_eq_true, inB_iff] at h1
      omega
    · cases h1
theorem may_ins {C : Cod} (h : mayP C = true) (k : Nat) (hk : k < C.ins.length) : (∀ r ∈ readsP C.ins[k], 0 ≤ r ∧ r < C.regs) ∧ (wrB (C.ins[k] 0) = true → 0 ≤ writI C.ins[k] ∧ writI C.ins[k] < C.regs) ∧ ((C.ins[k] 0 = 10 ∨ C.ins[k] 0 = 11) → (k : Int) < C.ins[k] 5 ∧ C.ins[k] 5 ≤ (C.ins.length : Int)) := by
  simp only [mayP, Bool.and_eq_true] at h
  have h2 := mayTo_at h.2.2 hk
  rw [show C.ins.getD k zI = C.ins[k] by simp [hk]] at h2
  generalize C.ins[k] = I at *
  simp only [insB, Bool.and_eq_true] at h2
  obtain ⟨h3, h4, h5⟩ := h2
  simp only [rgsB, Bool.and_eq_true, List.all_eq_true, Bool.or_eq_true] at h4
  refine ⟨fun r hr => (inB_iff _ _).1 (h4.1 r hr), fun hw => ?_, fun hj => ?_⟩
  · rcases h4.2 with h6 | h6
    · rw [hw] at h6; cases h6
    · exact (inB_iff _ _).1 h6
  · unfold fldB at h5
    rw [if_neg (by omega), if_neg (by omega), if_neg (by omega), if_neg (by omega), if_neg (by omega), if_neg (by omega), if_neg (by omega), if_pos hj] at h5
    simpa using h5
end Go.Proofs.YtglfhmlcmffoaaaGreat
