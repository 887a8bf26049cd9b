/-
  Images: the document's Put, refused.
-/
import Derived.Test.YtepieneefjhbkaaRE
namespace Go.Proofs.Ytepieneefjhbkaa
open Go.RowKit
set_option linter.unusedVariables false
set_option linter.unusedSimpArgs false

set_option maxRecDepth 10000 in
set_option maxHeartbeats 4000000 in
theorem refPut_bad {w : World} {v : Value} {L : List Ent} {I : Img} (h : LR w v L) (hA : I.L = absL L) (lv f W H : Int) (bo : Option Addr) (bcap : Nat) (bs : List Int) (hr : Row .u8 w (.slice bo bs.length bcap) bs) (hE : putE I lv f W H bs.length ≠ 0) :
    Calls Try.prog 12 #[.agg #[.int .i64 I.f, v, .int .i64 I.ws, .int .i64 I.wt, .int .i64 I.mn, .int .i64 I.mg], .int .i64 lv, .int .i64 f, .agg #[.int .i64 W, .int .i64 H, .slice bo bs.length bcap]] w fun e w' => e = .returned (.tuple #[.agg #[.int .i64 0, .slice none 0 0, .int .i64 0, .int .i64 0, .int .i64 0, .int .i64 0], .int .i64 (putE I lv f W H bs.length)]) ∧ Ext w w' := by
  obtain ⟨ao, cap, rfl, hao, hlc, hcm, _⟩ := h.shape
  have hcm2 : cap ≤ 9223372036854775807 := by unfold maxLen at hcm; omega
  have hIl : I.L.length = L.length := by rw [hA, absL_len]
  have HPE : Hid (putE I lv f W H bs.length = if okB (sizI I.f) I = false then 180 else if lv < 0 ∨ 7 ≤ lv ∨ sizI f = 0 ∨ sideB W = false ∨ sideB H = false then 2 else if bs.length ≠ 0 ∧ (bs.length : Int) ≠ W * H * sizI f then 7 else if lv ≠ 0 ∧ L.length ≠ 0 ∧ f ≠ I.f then 181 else 0) := by
    show _ = _
    unfold putE
    rw [hIl]
  have hX1 := (((Ext.refl w).alloc (.cells #[.int .i64 I.f, .slice ao L.length cap, .int .i64 I.ws, .int .i64 I.wt, .int .i64 I.mn, .int .i64 I.mg] 24)).alloc (.cells #[.int .i64 W, .int .i64 H, .slice bo bs.length bcap] 27)).alloc (.cells #[.int .i64 0, .slice none 0 0, .int .i64 0, .int .i64 0, .int .i64 0, .int .i64 0] 24)
  have hB1 : Blk (((w.alloc (.cells #[.int .i64 I.f, .slice ao L.length cap, .int .i64 I.ws, .int .i64 I.wt, .int .i64 I.mn, .int .i64 I.mg] 24)).alloc (.cells #[.int .i64 W, .int .i64 H, .slice bo bs.length bcap] 27)).alloc (.cells #[.int .i64 0, .slice none 0 0, .int .i64 0, .int .i64 0, .int .i64 0, .int .i64 0] 24)) w.heap.size #[.int .i64 I.f, .slice ao L.length cap, .int .i64 I.ws, .int .i64 I.wt, .int .i64 I.mn, .int .i64 I.mg] 24 := ((Blk.new _ _ _).alloc _).alloc _
  have hL1 : Blk (((w.alloc (.cells #[.int .i64 I.f, .slice ao L.length cap, .int .i64 I.ws, .int .i64 I.wt, .int .i64 I.mn, .int .i64 I.mg] 24)).alloc (.cells #[.int .i64 W, .int .i64 H, .slice bo bs.length bcap] 27)).alloc (.cells #[.int .i64 0, .slice none 0 0, .int .i64 0, .int .i64 0, .int .i64 0, .int .i64 0] 24)) (w.heap.size + 1) #[.int .i64 W, .int .i64 H, .slice bo bs.length bcap] 27 := Blk.alloc (Blk.at (by simp)) _
  have hR1 : Blk (((w.alloc (.cells #[.int .i64 I.f, .slice ao L.length cap, .int .i64 I.ws, .int .i64 I.wt, .int .i64 I.mn, .int .i64 I.mg] 24)).alloc (.cells #[.int .i64 W, .int .i64 H, .slice bo bs.length bcap] 27)).alloc (.cells #[.int .i64 0, .slice none 0 0, .int .i64 0, .int .i64 0, .int .i64 0, .int .i64 0] 24)) (w.heap.size + 2) #[.int .i64 0, .slice none 0 0, .int .i64 0, .int .i64 0, .int .i64 0, .int .i64 0] 24 := Blk.at (by simp)
  have H1 := hide (And.intro hX1 (And.intro hB1 (And.intro hL1 hR1)))
  have HA := hide hA
  have HH := hide h
  have HNE := hide hE
  clear h hA hao hcm hX1 hB1 hL1 hR1 hE hr hIl
  go_enter Try.func12, Try.ntmps12
  go_wp2_with fail
  generalize ((w.alloc (.cells #[.int .i64 I.f, .slice ao L.length cap, .int .i64 I.ws, .int .i64 I.wt, .int .i64 I.mn, .int .i64 I.mg] 24)).alloc (.cells #[.int .i64 W, .int .i64 H, .slice bo bs.length bcap] 27)).alloc (.cells #[.int .i64 0, .slice none 0 0, .int .i64 0, .int .i64 0, .int .i64 0, .int .i64 0] 24) = w1 at H1 ⊢
  refine (refRight_any (I := I) ((unhide HH).ext (unhide H1).1) (unhide HA)).mono ?_
  rintro e w2 ⟨rfl, hx2⟩
  have H2 := hide (And.intro ((unhide H1).1.trans hx2) (And.intro ((unhide H1).2.1.ext hx2) (And.intro ((unhide H1).2.2.1.ext hx2) ((unhide H1).2.2.2.ext hx2))))
  clear H1 hx2
  cases hok : okB (sizI I.f) I with
  | false =>
    have E := hide (show putE I lv f W H bs.length = 180 by rw [unhide HPE, if_pos hok])
    clear hok HPE HNE
    have hR9 := (unhide H2).2.2.2
    obtain ⟨p0, p1, p2, p3, p4, p5⟩ := hR9.six
    obtain ⟨f0, f1, f2, f3, f4, f5⟩ := hR9.frees
    have hB7 := hR9.put6 (.int .i64 0) (.slice none 0 0) (.int .i64 0) (.int .i64 0) (.int .i64 0) (.int .i64 0)
    have hg7 := grown_put6 w2 (w.heap.size + 2) (.int .i64 0) (.slice none 0 0) (.int .i64 0) (.int .i64 0) (.int .i64 0) (.int .i64 0)
    have hX7 : Ext w _ := below_grown (unhide H2).1 hg7 (unhide H2).1.size (by omega)
    have H7 := hide (And.intro hB7 hX7)
    clear hR9 hB7 hg7 hX7
    go_wp2
    obtain ⟨r0, r1, r2, r3, r4, r5⟩ := (unhide H7).1.six
    refine bodyPost_ret (v := .tuple #[.agg #[.int .i64 0, .slice none 0 0, .int .i64 0, .int .i64 0, .int .i64 0, .int .i64 0], .int .i64 180]) (by simp [results, Try.results12, go_sem, r0, r1, r2, r3, r4, r5]) rfl ?_
    rw [unhide E]
    exact ⟨rfl, (unhide H7).2⟩
  | true =>
  rw [hok, if_neg (by simp)] at HPE
  clear hok
  obtain ⟨l0, l1, l2⟩ := (unhide H2).2.2.1.three
  have HSZ : Hid (∀ wx, Calls Try.prog 34 #[.int .i64 f] wx fun e w' => e = .returned (.int .i64 (sizI f)) ∧ w' = wx) := fun wx => refSize_any f wx
  by_cases c1 : lv < 0
  case pos =>
    have E := hide (show putE I lv f W H bs.length = 2 by rw [unhide HPE, if_pos (.inl c1)])
    clear HPE HNE
    have hR9 := (unhide H2).2.2.2
    obtain ⟨p0, p1, p2, p3, p4, p5⟩ := hR9.six
    obtain ⟨f0, f1, f2, f3, f4, f5⟩ := hR9.frees
    have hB7 := hR9.put6 (.int .i64 0) (.slice none 0 0) (.int .i64 0) (.int .i64 0) (.int .i64 0) (.int .i64 0)
    have hg7 := grown_put6 w2 (w.heap.size + 2) (.int .i64 0) (.slice none 0 0) (.int .i64 0) (.int .i64 0) (.int .i64 0) (.int .i64 0)
    have hX7 : Ext w _ := below_grown (unhide H2).1 hg7 (unhide H2).1.size (by omega)
    have H7 := hide (And.intro hB7 hX7)
    clear hR9 hB7 hg7 hX7
    go_wp2
    obtain ⟨r0, r1, r2, r3, r4, r5⟩ := (unhide H7).1.six
    refine bodyPost_ret (v := .tuple #[.agg #[.int .i64 0, .slice none 0 0, .int .i64 0, .int .i64 0, .int .i64 0, .int .i64 0], .int .i64 2]) (by simp [results, Try.results12, go_sem, r0, r1, r2, r3, r4, r5]) rfl ?_
    rw [unhide E]
    exact ⟨rfl, (unhide H7).2⟩
  case neg =>
  by_cases c2 : 7 ≤ lv
  case pos =>
    have E := hide (show putE I lv f W H bs.length = 2 by rw [unhide HPE, if_pos (.inr (.inl c2))])
    clear HPE HNE
    have hR9 := (unhide H2).2.2.2
    obtain ⟨p0, p1, p2, p3, p4, p5⟩ := hR9.six
    obtain ⟨f0, f1, f2, f3, f4, f5⟩ := hR9.frees
    have hB7 := hR9.put6 (.int .i64 0) (.slice none 0 0) (.int .i64 0) (.int .i64 0) (.int .i64 0) (.int .i64 0)
    have hg7 := grown_put6 w2 (w.heap.size + 2) (.int .i64 0) (.slice none 0 0) (.int .i64 0) (.int .i64 0) (.int .i64 0) (.int .i64 0)
    have hX7 : Ext w _ := below_grown (unhide H2).1 hg7 (unhide H2).1.size (by omega)
    have H7 := hide (And.intro hB7 hX7)
    clear hR9 hB7 hg7 hX7
    go_wp2
    obtain ⟨r0, r1, r2, r3, r4, r5⟩ := (unhide H7).1.six
    refine bodyPost_ret (v := .tuple #[.agg #[.int .i64 0, .slice none 0 0, .int .i64 0, .int .i64 0, .int .i64 0, .int .i64 0], .int .i64 2]) (by simp [results, Try.results12, go_sem, r0, r1, r2, r3, r4, r5]) rfl ?_
    rw [unhide E]
    exact ⟨rfl, (unhide H7).2⟩
  case neg =>
  by_cases c3 : sizI f = 0
  case pos =>
    have E := hide (show putE I lv f W H bs.length = 2 by rw [unhide HPE, if_pos (.inr (.inr (.inl c3)))])
    rw [c3] at HSZ
    clear HPE HNE c3
    go_wp2_with fail
    refine (unhide HSZ _).mono ?_
    rintro e w3 ⟨rfl, rfl⟩
    have hR9 := (unhide H2).2.2.2
    obtain ⟨p0, p1, p2, p3, p4, p5⟩ := hR9.six
    obtain ⟨f0, f1, f2, f3, f4, f5⟩ := hR9.frees
    have hB7 := hR9.put6 (.int .i64 0) (.slice none 0 0) (.int .i64 0) (.int .i64 0) (.int .i64 0) (.int .i64 0)
    have hg7 := grown_put6 w3 (w.heap.size + 2) (.int .i64 0) (.slice none 0 0) (.int .i64 0) (.int .i64 0) (.int .i64 0) (.int .i64 0)
    have hX7 : Ext w _ := below_grown (unhide H2).1 hg7 (unhide H2).1.size (by omega)
    have H7 := hide (And.intro hB7 hX7)
    clear hR9 hB7 hg7 hX7
    go_wp2
    obtain ⟨r0, r1, r2, r3, r4, r5⟩ := (unhide H7).1.six
    refine bodyPost_ret (v := .tuple #[.agg #[.int .i64 0, .slice none 0 0, .int .i64 0, .int .i64 0, .int .i64 0, .int .i64 0], .int .i64 2]) (by simp [results, Try.results12, go_sem, r0, r1, r2, r3, r4, r5]) rfl ?_
    rw [unhide E]
    exact ⟨rfl, (unhide H7).2⟩
  case neg =>
  have d3 : (sizI f == 0) = false := by rw [beq_eq_false_iff_ne]; exact c3
  go_wp2_with fail
  refine (unhide HSZ _).mono ?_
  rintro e w3 ⟨rfl, rfl⟩
  go_wp2_with fail
  refine (refSide_any W _).mono ?_
  rintro e w2 ⟨rfl, rfl⟩
  cases c4 : sideB W with
  | false =>
    have E := hide (show putE I lv f W H bs.length = 2 by rw [unhide HPE, if_pos (.inr (.inr (.inr (.inl c4))))])
    clear HPE HNE
    have hR9 := (unhide H2).2.2.2
    obtain ⟨p0, p1, p2, p3, p4, p5⟩ := hR9.six
    obtain ⟨f0, f1, f2, f3, f4, f5⟩ := hR9.frees
    have hB7 := hR9.put6 (.int .i64 0) (.slice none 0 0) (.int .i64 0) (.int .i64 0) (.int .i64 0) (.int .i64 0)
    have hg7 := grown_put6 w2 (w.heap.size + 2) (.int .i64 0) (.slice none 0 0) (.int .i64 0) (.int .i64 0) (.int .i64 0) (.int .i64 0)
    have hX7 : Ext w _ := below_grown (unhide H2).1 hg7 (unhide H2).1.size (by omega)
    have H7 := hide (And.intro hB7 hX7)
    clear hR9 hB7 hg7 hX7
    go_wp2
    obtain ⟨r0, r1, r2, r3, r4, r5⟩ := (unhide H7).1.six
    refine bodyPost_ret (v := .tuple #[.agg #[.int .i64 0, .slice none 0 0, .int .i64 0, .int .i64 0, .int .i64 0, .int .i64 0], .int .i64 2]) (by simp [results, Try.results12, go_sem, r0, r1, r2, r3, r4, r5]) rfl ?_
    rw [unhide E]
    exact ⟨rfl, (unhide H7).2⟩
  | true =>
  go_wp2_with fail
  refine (refSide_any H _).mono ?_
  rintro e w3 ⟨rfl, rfl⟩
  cases c5 : sideB H with
  | false =>
    have E := hide (show putE I lv f W H bs.length = 2 by rw [unhide HPE, if_pos (.inr (.inr (.inr (.inr c5))))])
    clear HPE HNE
    have hR9 := (unhide H2).2.2.2
    obtain ⟨p0, p1, p2, p3, p4, p5⟩ := hR9.six
    obtain ⟨f0, f1, f2, f3, f4, f5⟩ := hR9.frees
    have hB7 := hR9.put6 (.int .i64 0) (.slice none 0 0) (.int .i64 0) (.int .i64 0) (.int .i64 0) (.int .i64 0)
    have hg7 := grown_put6 w3 (w.heap.size + 2) (.int .i64 0) (.slice none 0 0) (.int .i64 0) (.int .i64 0) (.int .i64 0) (.int .i64 0)
    have hX7 : Ext w _ := below_grown (unhide H2).1 hg7 (unhide H2).1.size (by omega)
    have H7 := hide (And.intro hB7 hX7)
    clear hR9 hB7 hg7 hX7
    go_wp2
    obtain ⟨r0, r1, r2, r3, r4, r5⟩ := (unhide H7).1.six
    refine bodyPost_ret (v := .tuple #[.agg #[.int .i64 0, .slice none 0 0, .int .i64 0, .int .i64 0, .int .i64 0, .int .i64 0], .int .i64 2]) (by simp [results, Try.results12, go_sem, r0, r1, r2, r3, r4, r5]) rfl ?_
    rw [unhide E]
    exact ⟨rfl, (unhide H7).2⟩
  | true =>
  rw [if_neg (by rw [c4, c5]; simp; omega)] at HPE
  have hW := sideB_iff.1 c4
  have hH := sideB_iff.1 c5
  clear c4 c5
  have HSE : Hid (∀ wx, Calls Try.prog 34 #[.int .i64 f] wx fun e w' => e = .returned (.int .i64 (sizI f)) ∧ Ext wx w') := fun wx => (refSize_any f wx).mono fun e w' h => ⟨h.1, by rw [h.2]; exact Ext.refl _⟩
  have hsb := siz_bd f
  have m0 : 0 ≤ W * H := Int.mul_nonneg (by omega) (by omega)
  have m1 : W * H ≤ 64 * 64 := Int.mul_le_mul hW.2 hH.2 (by omega) (by omega)
  have m2 : 0 ≤ W * H * sizI f := Int.mul_nonneg m0 hsb.1
  have m3 : W * H * sizI f ≤ 4096 * 4 := Int.mul_le_mul m1 hsb.2 hsb.1 (by omega)
  have w1' : IntKind.i64.wrap (W * H) = W * H := by simp [IntKind.wrap, IntKind.bits, IntKind.signed]; omega
  have w2' : IntKind.i64.wrap (W * H * sizI f) = W * H * sizI f := by simp [IntKind.wrap, IntKind.bits, IntKind.signed]; omega
  have k0 := cell_later l0
  have k1 := cell_later l1
  have k2 := cell_later l2
  have hsome := Later.some w3
  clear l0 l1 l2
  go_upto_region 5 with fail
  by_cases c6 : bs.length ≠ 0 ∧ (bs.length : Int) ≠ W * H * sizI f
  case pos =>
    have E := hide (show putE I lv f W H bs.length = 7 by rw [unhide HPE, if_pos c6])
    have d6 : ((bs.length : Int) != 0) = true := by simp only [bne_iff_ne, ne_eq]; omega
    have d7 : ((bs.length : Int) != W * H * sizI f) = true := by simp only [bne_iff_ne, ne_eq]; exact c6.2
    clear HPE HNE c6
    refine wp_region_later (by kernel_rfl) (by kernel_rfl) ?_
    repeat (go_big_quiet_step (first | (go_at_call 34; refine calls_later (unhide HSE _))))
    refine wpQuiet_nil ?_
    rintro _ ⟨x, rfl⟩
    have H5 := hide (And.intro ((unhide H2).1.trans x.ext) (And.intro ((unhide H2).2.1.ext x.ext) (And.intro ((unhide H2).2.2.1.ext x.ext) ((unhide H2).2.2.2.ext x.ext))))
    generalize x.w = w5 at H5 ⊢
    have hR9 := (unhide H5).2.2.2
    obtain ⟨p0, p1, p2, p3, p4, p5⟩ := hR9.six
    obtain ⟨f0, f1, f2, f3, f4, f5⟩ := hR9.frees
    have hB7 := hR9.put6 (.int .i64 0) (.slice none 0 0) (.int .i64 0) (.int .i64 0) (.int .i64 0) (.int .i64 0)
    have hg7 := grown_put6 w5 (w.heap.size + 2) (.int .i64 0) (.slice none 0 0) (.int .i64 0) (.int .i64 0) (.int .i64 0) (.int .i64 0)
    have hX7 : Ext w _ := below_grown (unhide H5).1 hg7 (unhide H5).1.size (by omega)
    have H7 := hide (And.intro hB7 hX7)
    clear hR9 hB7 hg7 hX7
    go_wp2
    obtain ⟨r0, r1, r2, r3, r4, r5⟩ := (unhide H7).1.six
    refine bodyPost_ret (v := .tuple #[.agg #[.int .i64 0, .slice none 0 0, .int .i64 0, .int .i64 0, .int .i64 0, .int .i64 0], .int .i64 7]) (by simp [results, Try.results12, go_sem, r0, r1, r2, r3, r4, r5]) rfl ?_
    rw [unhide E]
    exact ⟨rfl, (unhide H7).2⟩
  case neg =>
  rw [if_neg c6] at HPE
  by_cases c7 : lv ≠ 0 ∧ L.length ≠ 0 ∧ f ≠ I.f
  case neg => exact absurd (by rw [unhide HPE, if_neg c7]) (unhide HNE)
  case pos =>
  have E := hide (show putE I lv f W H bs.length = 181 by rw [unhide HPE, if_pos c7])
  have e1 : (lv != 0) = true := by simp only [bne_iff_ne, ne_eq]; exact c7.1
  have e2 : (0 : Int) < (L.length : Int) := by have := c7.2.1; omega
  have e3 : (I.f != f) = true := by simp only [bne_iff_ne, ne_eq]; exact fun h9 => c7.2.2 h9.symm
  clear c7 HPE HNE
  by_cases c8 : bs.length = 0
  · have d6 : ((bs.length : Int) != 0) = false := by simp [c8]
    clear c8 c6
    refine wp_region_later (by kernel_rfl) (by kernel_rfl) ?_
    repeat (go_big_quiet_step (first | (go_at_call 34; refine calls_later (unhide HSE _))))
    refine wpQuiet_nil ?_
    rintro _ ⟨x, rfl⟩
    have H5 := hide (And.intro ((unhide H2).1.trans x.ext) (And.intro ((unhide H2).2.1.ext x.ext) (And.intro ((unhide H2).2.2.1.ext x.ext) ((unhide H2).2.2.2.ext x.ext))))
    generalize x.w = w5 at H5 ⊢
    have q0 := (unhide H5).2.1.six.1
    have q1 := (unhide H5).2.1.six.2.1
    have hR9 := (unhide H5).2.2.2
    obtain ⟨p0, p1, p2, p3, p4, p5⟩ := hR9.six
    obtain ⟨f0, f1, f2, f3, f4, f5⟩ := hR9.frees
    have hB7 := hR9.put6 (.int .i64 0) (.slice none 0 0) (.int .i64 0) (.int .i64 0) (.int .i64 0) (.int .i64 0)
    have hg7 := grown_put6 w5 (w.heap.size + 2) (.int .i64 0) (.slice none 0 0) (.int .i64 0) (.int .i64 0) (.int .i64 0) (.int .i64 0)
    have hX7 : Ext w _ := below_grown (unhide H5).1 hg7 (unhide H5).1.size (by omega)
    have H7 := hide (And.intro hB7 hX7)
    clear hR9 hB7 hg7 hX7
    go_wp2
    obtain ⟨r0, r1, r2, r3, r4, r5⟩ := (unhide H7).1.six
    refine bodyPost_ret (v := .tuple #[.agg #[.int .i64 0, .slice none 0 0, .int .i64 0, .int .i64 0, .int .i64 0, .int .i64 0], .int .i64 181]) (by simp [results, Try.results12, go_sem, r0, r1, r2, r3, r4, r5]) rfl ?_
    rw [unhide E]
    exact ⟨rfl, (unhide H7).2⟩
  · have d6 : ((bs.length : Int) != 0) = true := by simp only [bne_iff_ne, ne_eq]; omega
    have d7 : ((bs.length : Int) != W * H * sizI f) = false := by
      by_cases h9 : (bs.length : Int) = W * H * sizI f
      · simp [h9]
      · exact absurd ⟨c8, h9⟩ c6
    clear c8 c6
    refine wp_region_later (by kernel_rfl) (by kernel_rfl) ?_
    repeat (go_big_quiet_step (first | (go_at_call 34; refine calls_later (unhide HSE _))))
    refine wpQuiet_nil ?_
    rintro _ ⟨x, rfl⟩
    have H5 := hide (And.intro ((unhide H2).1.trans x.ext) (And.intro ((unhide H2).2.1.ext x.ext) (And.intro ((unhide H2).2.2.1.ext x.ext) ((unhide H2).2.2.2.ext x.ext))))
    generalize x.w = w5 at H5 ⊢
    have q0 := (unhide H5).2.1.six.1
    have q1 := (unhide H5).2.1.six.2.1
    have hR9 := (unhide H5).2.2.2
    obtain ⟨p0, p1, p2, p3, p4, p5⟩ := hR9.six
    obtain ⟨f0, f1, f2, f3, f4, f5⟩ := hR9.frees
    have hB7 := hR9.put6 (.int .i64 0) (.slice none 0 0) (.int .i64 0) (.int .i64 0) (.int .i64 0) (.int .i64 0)
    have hg7 := grown_put6 w5 (w.heap.size + 2) (.int .i64 0) (.slice none 0 0) (.int .i64 0) (.int .i64 0) (.int .i64 0) (.int .i64 0)
    have hX7 : Ext w _ := below_grown (unhide H5).1 hg7 (unhide H5).1.size (by omega)
    have H7 := hide (And.intro hB7 hX7)
    clear hR9 hB7 hg7 hX7
    go_wp2
    obtain ⟨r0, r1, r2, r3, r4, r5⟩ := (unhide H7).1.six
    refine bodyPost_ret (v := .tuple #[.agg #[.int .i64 0, .slice none 0 0, .int .i64 0, .int .i64 0, .int .i64 0, .int .i64 0], .int .i64 181]) (by simp [results, Try.results12, go_sem, r0, r1, r2, r3, r4, r5]) rfl ?_
    rw [unhide E]
    exact ⟨rfl, (unhide H7).2⟩
end Go.Proofs.Ytepieneefjhbkaa
