/-
  Colours: the document's There and Texel.
-/
import Derived.Test.YtadajaoidhbmgaaSE
import Derived.Test.YtadajaoidhbmgaaSH
import Derived.Test.YtadajaoidhbmgaaPKJ
namespace Go.Proofs.Ytadajaoidhbmgaa
open Go.RowKit
set_option linter.unusedVariables false
set_option linter.unusedSimpArgs false

section
variable {w : World} {v : Value} {L : List Ent} {I : Img}
set_option maxHeartbeats 1000000 in
theorem refThere9_any (h : LR w v L) (i : Int) :
    Calls Try.prog 10 #[.agg #[.int .i64 I.f, v, .int .i64 I.ws, .int .i64 I.wt, .int .i64 I.mn, .int .i64 I.mg], .int .i64 i] w fun e w' => e = .returned (.bool (hasB (absL L) i)) ∧ Ext w w' := by
  obtain ⟨ao, cap, rfl, hao, hlc, hcm, _⟩ := h.shape
  have hcm2 : cap ≤ 9223372036854775807 := by unfold maxLen at hcm; omega
  have HX := hide ((Ext.refl w).alloc (.cells #[.int .i64 I.f, .slice ao L.length cap, .int .i64 I.ws, .int .i64 I.wt, .int .i64 I.mn, .int .i64 I.mg] 24))
  by_cases a1 : 0 ≤ i
  · obtain ⟨k, rfl⟩ := Int.eq_ofNat_of_zero_le a1
    by_cases a2 : k < L.length
    · obtain ⟨b, off, bo, bcap, rfl, eb, c0, c1, c2, hr⟩ := (h.ext (unhide HX)).at k a2
      have E := hide (show hasB (absL L) (k : Int) = decide (0 < L[k].1) by unfold hasB; rw [absL_len, Int.toNat_natCast, absL_getD L k a2]; simp [a2, absE]; rfl)
      have a3 : (k : Int) < (L.length : Int) := by omega
      generalize L[k].1 = W at c0 E
      clear h c1 c2 hr eb hao a2 hcm
      go_enter Try.func10, Try.ntmps10
      go_wp2
      go_ret
      rw [unhide E]
      exact ⟨by simp, unhide HX⟩
    · have E := hide (show hasB (absL L) (k : Int) = false by simp [hasB, absL_len]; omega)
      have a3 : ¬ (k : Int) < (L.length : Int) := by omega
      clear h hao a2 hcm
      go_enter Try.func10, Try.ntmps10
      go_wp2
      go_ret
      rw [unhide E]
      exact ⟨by simp, unhide HX⟩
  · have E := hide (show hasB (absL L) i = false by simp [hasB, a1])
    clear h hao hcm
    go_enter Try.func10, Try.ntmps10
    go_wp2
    go_ret
    rw [unhide E]
    exact ⟨by simp, unhide HX⟩

theorem val_three {k n : Int} (hk : k = 1 ∨ k = 2) (h : valB k n = true) : 1 ≤ n ∧ n ≤ 3 := by
  unfold valB at h
  rw [if_pos hk] at h
  exact of_decide_eq_true h

set_option maxRecDepth 10000 in
set_option maxHeartbeats 4000000 in
theorem refTexel_any (h : LR w v L) (hA : I.L = absL L) (hby : ∀ p ∈ L, Byt p.2.2.2) (lv i j : Int) (hE : rfE I lv = 0) (hi : -1152921504606846976 ≤ i ∧ i ≤ 1152921504606846976) (hj : -1152921504606846976 ≤ j ∧ j ≤ 1152921504606846976) :
    Calls Try.prog 25 #[.agg #[.int .i64 I.f, v, .int .i64 I.ws, .int .i64 I.wt, .int .i64 I.mn, .int .i64 I.mg], .int .i64 lv, .int .i64 i, .int .i64 j] w fun e w' => e = .returned (.agg #[.int .i32 ((txI I (levAt I lv) i j) 0), .int .i32 ((txI I (levAt I lv) i j) 1), .int .i32 ((txI I (levAt I lv) i j) 2), .int .i32 ((txI I (levAt I lv) i j) 3)]) ∧ Ext w w' := by
  obtain ⟨hok, hh⟩ := rf_cases I lv hE
  obtain ⟨k, hk, rfl, hlv, hlk⟩ := lv_open hA hok hh
  obtain ⟨ao, cap, rfl, hao, hlc, hcm, _⟩ := h.shape
  have hcm2 : cap ≤ 9223372036854775807 := by unfold maxLen at hcm; omega
  have hws := val_three (.inl rfl) (okB_iff.1 hok).2.2.2.2.1
  have hwt := val_three (.inr rfl) (okB_iff.1 hok).2.2.2.2.2.1
  have hbk := hby _ (List.getElem_mem hk)
  have hx1 := ((Ext.refl w).alloc (.cells #[.int .i64 I.f, .slice ao L.length cap, .int .i64 I.ws, .int .i64 I.wt, .int .i64 I.mn, .int .i64 I.mg] 24)).alloc (.cells #[.int .i32 0, .int .i32 0, .int .i32 0, .int .i32 0] 30)
  obtain ⟨b, off, bo, bcap, rfl, eb, c0, c1, c2, hr⟩ := (h.ext hx1).at k hk
  have hkn : (k : Int) < (L.length : Int) := by omega
  have HTX : Hid (txI I (levAt I (k : Int)) i j = txI I (L[k].1, L[k].2.1, L[k].2.2.2) i j) := by rw [hlv]; exact rfl
  generalize L[k].1 = W at *
  generalize L[k].2.1 = H at *
  generalize L[k].2.2.2 = bs at *
  generalize levAt I (k : Int) = lev at *
  obtain ⟨z1, z2, z3, z4, z5⟩ := hlk.siz
  have hW : 1 ≤ W ∧ W ≤ 64 := hlk.w
  have hH : 1 ≤ H ∧ H ≤ 64 := hlk.h
  have hn : (bs.length : Int) = W * H * sizI I.f := hlk.n
  have hy := wrapI_bd (m := I.wt) (i := j) hH.1 hH.2
  have hx := wrapI_bd (m := I.ws) (i := i) hW.1 hW.2
  have hP := plN_eq (ws := I.ws) (wt := I.wt) (i := i) (j := j) hW hH
  have hPl := plN_lt (ws := I.ws) (wt := I.wt) (i := i) (j := j) hW hH
  have HT : Hid (txI I lev i j = colN I.f.toNat (numOf (cellL (siz I.f.toNat) bs (plN W H I.ws I.wt i j)))) := by
    show _ = _
    rw [unhide HTX]
    unfold txI
    rw [z1]
  have hs4 : 1 ≤ siz I.f.toNat ∧ siz I.f.toNat ≤ 4 := by rcases siz_three z2 z3 with h | h | h <;> omega
  clear HTX
  generalize plN W H I.ws I.wt i j = P at *
  rw [z4] at hn
  obtain ⟨s, hs⟩ : ∃ s, s = siz I.f.toNat := ⟨_, rfl⟩
  rw [← hs] at hs4 hn HT z4
  have hPs : (P + 1) * s ≤ bs.length := by
    have h1 : ((P : Int) + 1) * (s : Int) ≤ W * H * (s : Int) := Int.mul_le_mul_of_nonneg_right hPl (by omega)
    rw [← hn] at h1
    have h2 : (((P + 1) * s : Nat) : Int) = ((P : Int) + 1) * (s : Int) := by simp
    omega
  have hPs2 : (P + 1) * s = P * s + s := Nat.succ_mul _ _
  have hbc : bs.length ≤ bcap ∧ bcap ≤ maxLen := by
    obtain ⟨_, _, e9, _, h8, h9⟩ := hr.shape
    cases e9
    exact ⟨h8, h9⟩
  have hbm : bs.length ≤ 16384 := by
    have h1 := mul_side hW hH (s := (s : Int)) (by omega)
    omega
  obtain ⟨b2, off2, rfl, hpart⟩ := hr.part (P * s) s (by omega) (by omega)
  have hlen : (cellL s bs P).length = s := cellL_len hPs
  have HU : Hid (∀ wx, Ext ((w.alloc (.cells #[.int .i64 I.f, .slice (some ⟨b, off, none⟩) L.length cap, .int .i64 I.ws, .int .i64 I.wt, .int .i64 I.mn, .int .i64 I.mg] 24)).alloc (.cells #[.int .i32 0, .int .i32 0, .int .i32 0, .int .i32 0] 30)) wx → Calls Try.prog 38 #[.int .i64 I.f, .slice (some ⟨b2, off2 + P * s, none⟩) s (bcap - P * s)] wx fun e w' => e = .returned (.agg #[.int .i32 ((txI I lev i j) 0), .int .i32 ((txI I lev i j) 1), .int .i32 ((txI I lev i j) 2), .int .i32 ((txI I lev i j) 3)]) ∧ Ext wx w') := fun wx hx => by
    have h9 := refUnpack_any I.f.toNat (some ⟨b2, off2 + P * s, none⟩) (bcap - P * s) (cellL s bs P) wx z2 z3 (by rw [hlen]; exact hpart.ext hx) (hbk.cut _ _) (by rw [hlen]; exact hs)
    rw [hlen, z5] at h9
    rw [unhide HT]
    exact h9
  have e1 : IntKind.i64.wrap (wrapI I.wt j H * W) = wrapI I.wt j H * W := by
    have h1 : 0 ≤ wrapI I.wt j H * W := Int.mul_nonneg hy.1 (by omega)
    have h2 : wrapI I.wt j H * W ≤ (P : Int) := by omega
    have h3 : P ≤ P * s := Nat.le_mul_of_pos_right _ (by omega)
    simp [IntKind.wrap, IntKind.bits, IntKind.signed]
    omega
  have e2 : IntKind.i64.wrap (wrapI I.wt j H * W + wrapI I.ws i W) = (P : Int) := by
    have h3 : P ≤ P * s := Nat.le_mul_of_pos_right _ (by omega)
    rw [← hP]
    simp [IntKind.wrap, IntKind.bits, IntKind.signed]
    omega
  have e4 : (P : Int) * (s : Int) = ((P * s : Nat) : Int) := by simp
  have HWT := hide (fun wx => refWrap_any I.wt j H wx hwt hH hj)
  have HWS := hide (fun wx => refWrap_any I.ws i W wx hws hW hi)
  clear hpart hlen HT hr hbk hs hPl hn z1 z5 h hA hby hok hh hlv hlk hao hcm eb hE hws hwt hi hj
  generalize P * s = Q at *
  have e3 : IntKind.i64.wrap ((P : Int) * (s : Int)) = (Q : Int) := by
    rw [e4]
    simp [IntKind.wrap, IntKind.bits, IntKind.signed]
    omega
  have g1 : Q + s ≤ bs.length := by omega
  have g2 : IntKind.i64.wrap ((Q : Int) + (s : Int)) = (Q : Int) + (s : Int) := by
    simp [IntKind.wrap, IntKind.bits, IntKind.signed]
    omega
  have g3 : (Q : Int) + (s : Int) ≤ (bcap : Int) := by omega
  have g4 : (Q : Int) ≤ (Q : Int) + (s : Int) := by omega
  have g5 : ¬ bcap = Q := by omega
  have g6 : ((Q : Int) + (s : Int)).toNat = Q + s := by omega
  have g7 : bcap ≤ 9223372036854775807 := by
    have h9 := hbc.2
    unfold maxLen at h9
    omega
  have g8 : (0 : Int) ≤ (Q : Int) + (s : Int) := by omega
  clear e4 hP hy hx hW hH hPs hPs2 hbc
  have HSZ : Hid (∀ wx, Calls Try.prog 36 #[.int .i64 I.f] wx fun e w' => e = .returned (.int .i64 (s : Int)) ∧ w' = wx) := fun wx => by rw [← z4]; exact refSize5_any I.f wx
  clear z4
  have hB1 := (Blk.new w #[.int .i64 I.f, .slice (some ⟨b, off, none⟩) L.length cap, .int .i64 I.ws, .int .i64 I.wt, .int .i64 I.mn, .int .i64 I.mg] 24).alloc (.cells #[.int .i32 0, .int .i32 0, .int .i32 0, .int .i32 0] 30)
  have hR1 := Blk.at (w := w.alloc (.cells #[.int .i64 I.f, .slice (some ⟨b, off, none⟩) L.length cap, .int .i64 I.ws, .int .i64 I.wt, .int .i64 I.mn, .int .i64 I.mg] 24)) (b := w.heap.size + 1) (cs := #[.int .i32 0, .int .i32 0, .int .i32 0, .int .i32 0]) (t := 30) (by simp)
  have H1 := hide (And.intro hx1 (And.intro hB1 hR1))
  clear hx1 hB1 hR1
  go_enter Try.func25, Try.ntmps25
  go_upto_region 2 with fail
  generalize hw1 : (w.alloc (.cells #[.int .i64 I.f, .slice (some ⟨b, off, none⟩) L.length cap, .int .i64 I.ws, .int .i64 I.wt, .int .i64 I.mn, .int .i64 I.mg] 24)).alloc (.cells #[.int .i32 0, .int .i32 0, .int .i32 0, .int .i32 0] 30) = w1 at H1 HU c0 c1 c2 ⊢
  have hx2 := (Ext.refl w1).alloc (.cells #[.int .i64 W, .int .i64 H, .slice (some ⟨b2, off2, none⟩) bs.length bcap] 46)
  have H2 := hide (And.intro ((unhide H1).1.trans hx2) (And.intro ((unhide H1).2.1.ext hx2) (And.intro (Blk.new w1 #[.int .i64 W, .int .i64 H, .slice (some ⟨b2, off2, none⟩) bs.length bcap] 46) ((unhide H1).2.2.ext hx2))))
  have HU2 : Hid (∀ wx, Ext (w1.alloc (.cells #[.int .i64 W, .int .i64 H, .slice (some ⟨b2, off2, none⟩) bs.length bcap] 46)) wx → Calls Try.prog 38 #[.int .i64 I.f, .slice (some ⟨b2, off2 + Q, none⟩) s (bcap - Q)] wx fun e w' => e = .returned (.agg #[.int .i32 ((txI I lev i j) 0), .int .i32 ((txI I lev i j) 1), .int .i32 ((txI I lev i j) 2), .int .i32 ((txI I lev i j) 3)]) ∧ Ext wx w') := fun wx hx => unhide HU wx (hx2.trans hx)
  have hb1 : w1.heap.size = w.heap.size + 1 + 1 := by rw [← hw1]; simp
  rw [hb1] at H2
  generalize w1.alloc (.cells #[.int .i64 W, .int .i64 H, .slice (some ⟨b2, off2, none⟩) bs.length bcap] 46) = w2 at H2 HU2 ⊢
  clear hw1 hx2 H1 HU c0 c1 c2 hb1
  obtain ⟨q0, q1, q2, q3, q4, q5⟩ := (unhide H2).2.1.six
  obtain ⟨l0, l1, l2⟩ := (unhide H2).2.2.1.three
  go_wp2_with fail
  refine (unhide HSZ _).mono ?_
  rintro e w2' ⟨rfl, rfl⟩
  go_upto_region 3 with fail
  go_quiet (first | (go_at_call 37; first | (with_reducible refine Calls.quiet_of_same (unhide HWT _)) | (with_reducible refine Calls.quiet_of_same (unhide HWS _))))
  go_upto_region 4 with fail
  have H3 := hide (And.intro ((unhide H2).1.drewN nq) (And.intro ((unhide H2).2.1.drewN nq) (And.intro ((unhide H2).2.2.1.drewN nq) ((unhide H2).2.2.2.drewN nq))))
  have HU3 : Hid (∀ wx, Ext (w2'.drewN nq) wx → Calls Try.prog 38 #[.int .i64 I.f, .slice (some ⟨b2, off2 + Q, none⟩) s (bcap - Q)] wx fun e w' => e = .returned (.agg #[.int .i32 ((txI I lev i j) 0), .int .i32 ((txI I lev i j) 1), .int .i32 ((txI I lev i j) 2), .int .i32 ((txI I lev i j) 3)]) ∧ Ext wx w') := fun wx hx => unhide HU2 wx (((Ext.refl _).drewN nq).trans hx)
  clear q0 q1 q2 q3 q4 q5 l0 l1 l2 H2 HU2 HWT HWS HSZ e1 e2
  generalize w2'.drewN nq = w3 at H3 HU3 ⊢
  have HCL : Hid (∀ wx, Ext w3 wx → (wx.cell? ⟨w.heap.size, 0, none⟩ = some (.int .i64 I.f) ∧ wx.cell? ⟨w.heap.size + 1 + 1, 2, none⟩ = some (.slice (some ⟨b2, off2, none⟩) bs.length bcap))) := fun wx hx => ⟨((unhide H3).2.1.ext hx).six.1, ((unhide H3).2.2.1.ext hx).three.2.2⟩
  have HCL4 : Hid (∀ wx a0 a1 a2 a3, Ext w3 wx → (((((wx.setCell ⟨w.heap.size + 1, 0, none⟩ a0).setCell ⟨w.heap.size + 1, 1, none⟩ a1).setCell ⟨w.heap.size + 1, 2, none⟩ a2).setCell ⟨w.heap.size + 1, 3, none⟩ a3).cell? ⟨w.heap.size, 0, none⟩ = some (.int .i64 I.f) ∧ ((((wx.setCell ⟨w.heap.size + 1, 0, none⟩ a0).setCell ⟨w.heap.size + 1, 1, none⟩ a1).setCell ⟨w.heap.size + 1, 2, none⟩ a2).setCell ⟨w.heap.size + 1, 3, none⟩ a3).cell? ⟨w.heap.size + 1 + 1, 2, none⟩ = some (.slice (some ⟨b2, off2, none⟩) bs.length bcap))) := fun wx a0 a1 a2 a3 hx => ⟨(((unhide H3).2.1.ext hx).grown (grown_put4 wx (w.heap.size + 1) a0 a1 a2 a3) (by omega)).six.1, (((unhide H3).2.2.1.ext hx).grown (grown_put4 wx (w.heap.size + 1) a0 a1 a2 a3) (by omega)).three.2.2⟩
  have HR3 : Hid (∀ wx, Ext w3 wx → Blk wx (w.heap.size + 1) #[.int .i32 0, .int .i32 0, .int .i32 0, .int .i32 0] 30 ∧ Ext w wx) := fun wx hx => ⟨(unhide H3).2.2.2.ext hx, (unhide H3).1.trans hx⟩
  clear H3
  go_region_held3 (fun wx => (wx.cell? ⟨w.heap.size, 0, none⟩ = some (.int .i64 I.f) ∧ wx.cell? ⟨w.heap.size + 1 + 1, 2, none⟩ = some (.slice (some ⟨b2, off2, none⟩) bs.length bcap)))
    (first | with_reducible exact unhide HCL _ bx | with_reducible exact unhide HCL _ (ext_0 w3) | with_reducible exact unhide HCL4 _ _ _ _ _ bx)
    (first
      | (go_at_call 38; refine (unhide HU3 _ (ext_0 w3)).mono ?_; rintro e ws ⟨rfl, hxs⟩; have bx : Ext w3 ws := (ext_0 w3).trans hxs; have HW := hide (unhide HR3 _ bx); obtain ⟨r0, r1, r2, r3⟩ := (unhide HW).1.four; obtain ⟨f0, f1, f2, f3, _⟩ := (unhide HW).1.frees))
  all_goals
    have H9 := hide (And.intro ((unhide HW).1.put4 (.int .i32 (txI I lev i j 0)) (.int .i32 (txI I lev i j 1)) (.int .i32 (txI I lev i j 2)) (.int .i32 (txI I lev i j 3))) (ext_put4 (b := w.heap.size + 1) (a0 := .int .i32 (txI I lev i j 0)) (a1 := .int .i32 (txI I lev i j 1)) (a2 := .int .i32 (txI I lev i j 2)) (a3 := .int .i32 (txI I lev i j 3)) (unhide HW).2 (by omega)))
    go_wp2
    obtain ⟨t0, t1, t2, t3⟩ := (unhide H9).1.four
    refine bodyPost_ret (v := .agg #[.int .i32 ((txI I lev i j) 0), .int .i32 ((txI I lev i j) 1), .int .i32 ((txI I lev i j) 2), .int .i32 ((txI I lev i j) 3)]) (by simp [results, Try.results25, go_sem, t0, t1, t2, t3]) rfl ⟨rfl, (unhide H9).2⟩
end
end Go.Proofs.Ytadajaoidhbmgaa
