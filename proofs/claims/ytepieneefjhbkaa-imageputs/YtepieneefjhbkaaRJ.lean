/-
  Images: the document's Put, where it does not refuse.
-/
import Derived.Test.YtepieneefjhbkaaRE
import Derived.Test.YtepieneefjhbkaaRB
import Derived.Laws.OwnMore
namespace Go.Proofs.Ytepieneefjhbkaa
open Go.RowKit
set_option linter.unusedVariables false
set_option linter.unusedSimpArgs false

theorem putE_fmt {I : Img} {lv f W H : Int} {n : Nat} (h : putE I lv f W H n = 0) : ¬ (lv ≠ 0 ∧ I.L.length ≠ 0 ∧ f ≠ I.f) := by
  intro h9
  unfold putE at h
  by_cases h1 : okB (sizI I.f) I = false
  · rw [if_pos h1] at h
    simp at h
  · rw [if_neg h1] at h
    by_cases h2 : lv < 0 ∨ 7 ≤ lv ∨ sizI f = 0 ∨ sideB W = false ∨ sideB H = false
    · rw [if_pos h2] at h
      simp at h
    · rw [if_neg h2] at h
      by_cases h3 : n ≠ 0 ∧ (n : Int) ≠ W * H * sizI f
      · rw [if_pos h3] at h
        simp at h
      · rw [if_neg h3, if_pos h9] at h
        simp at h
/-- How far the document's Put has come: the image under way lies in its own block. -/
structure RPS (w wr : World) (base : Nat) (J : Img) (W H : Int) (vb : Value) (ao : Option Addr) (cap : Nat) (D : List Ent) : Prop where
  blk : Blk wr w.heap.size #[.int .i64 J.f, .slice ao D.length cap, .int .i64 J.ws, .int .i64 J.wt, .int .i64 J.mn, .int .i64 J.mg] 24
  lo : LO wr base (.slice ao D.length cap) D
  lev : Blk wr (w.heap.size + 1) #[.int .i64 W, .int .i64 H, vb] 27
  res : Blk wr (w.heap.size + 1 + 1) #[.int .i64 0, .slice none 0 0, .int .i64 0, .int .i64 0, .int .i64 0, .int .i64 0] 24
  low : w.heap.size + 3 ≤ base
  ext : Ext w wr
  top : base ≤ wr.heap.size
theorem RPS.exts {w wr w' : World} {base : Nat} {J : Img} {W H : Int} {vb : Value} {ao : Option Addr} {cap : Nat} {D : List Ent} (h : RPS w wr base J W H vb ao cap D) (hx : Ext wr w') : RPS w w' base J W H vb ao cap D :=
  ⟨h.blk.ext hx, h.lo.ext hx, h.lev.ext hx, h.res.ext hx, h.low, h.ext.trans hx, Nat.le_trans h.top hx.size⟩
theorem RPS.more {w wr w5 : World} {base : Nat} {J : Img} {W H : Int} {vb : Value} {ao ao' : Option Addr} {cap cap' : Nat} {D : List Ent} {o : Obj} (h : RPS w wr base J W H vb ao cap D)
    (hown0 : w5.ownsRow base 27 3 (.slice ao' (D.length + 1) cap') (D.length + 1) (lcells (D ++ [zent]))) (hg : (wr.alloc o).grownBy w5 (Value.slice ao D.length cap).ownBlock) :
    w5.cell? ⟨w.heap.size, 1, none⟩ = some (.slice ao D.length cap) ∧ w5.frozen? ⟨w.heap.size, 1, none⟩ = false ∧ RPS w (w5.setCell ⟨w.heap.size, 1, none⟩ (.slice ao' (D.length + 1) cap')) base J W H vb ao' cap' (D ++ [zent]) := by
  have hown : w5.ownsRow base 27 3 (.slice ao' (D.length + 1) cap') (D ++ [zent]).length (lcells (D ++ [zent])) := by rw [show (D ++ [zent]).length = D.length + 1 by simp]; exact hown0
  have h1 := h.exts ((Ext.refl wr).alloc o)
  have hlo5 : LO w5 base (.slice ao' (D.length + 1) cap') (D ++ [zent]) := h1.lo.app hown hg (Own.nil _ _ _ _) (fun p hp b hb => by simp [zent, Value.ownBlock])
  have hb5 := h1.blk.by (by decide) h1.lo hg
  have hl5 := h1.lev.byL (by have := h.low; omega) h1.lo hg
  have hr5 := h1.res.by (by decide) h1.lo hg
  have hx5 : Ext w w5 := h1.ext.grown hg h1.ext.size (fun k e => by
    have h3 := (World.ownsRow.lt h1.lo.own k e).1
    have h4 := h.low
    omega)
  have hg6 := grownBy_set w5 w.heap.size 1 (.slice ao' (D.length + 1) cap')
  have hl : (D ++ [zent]).length = D.length + 1 := by simp
  refine ⟨hb5.six.2.1, hb5.free 1, ⟨?_, ?_, ?_, ?_, h.low, ?_, ?_⟩⟩
  · have := hb5.set 1 (.slice ao' (D.length + 1) cap')
    rw [hl]
    simpa using this
  · rw [hl]
    exact hlo5.grown hb5 ⟨by decide, by decide⟩ hg6
  · exact hl5.other (r := w.heap.size) _ _ (by omega)
  · exact hr5.other (r := w.heap.size) _ _ (by omega)
  · exact below_grown hx5 hg6 hx5.size (Nat.le_refl _)
  · have h7 := hg.size
    have h8 := h1.top
    have h9 := hg6.size
    omega
/-- 'make([]T, n)', as one operation: n zeros. -/
theorem wp_make_Zeros {P : Program} (w : World) {o : Oper} {a : Act} {K : Act → World → Prop} {Q : Exit → Act → World → Prop} (l c : Operand) (t : TypeId) (hop : o.op = Op.makeSlice t l c)
    (base : Nat) (e : TypeId) (i : TypeInfo) (k : IntKind) (h1 : P.underlying t = some (.slice e)) (h2 : P.info? e = some i) (h3 : i.zero = some (.int k 0)) (h4 : i.size = 1)
    (kl kc : IntKind) (n : Nat) (hl : a.eval l = .int kl (n : Int)) (hc : a.eval c = .int kc (n : Int)) (b2 : i.bytes * n ≤ 281474976710656) (b3 : n ≤ maxLen) (b4 : base ≤ w.heap.size)
    (hK : ∀ w', Own k w' base e (.slice (some ⟨w.heap.size, 0, none⟩) n n) (List.replicate n 0) → w.grownBy w' none → K (a.put o.dst (.slice (some ⟨w.heap.size, 0, none⟩) n n)) w') : o.wp P a w K Q := by
  obtain ⟨w', hrun, r1, r2⟩ := run_make_full (P := P) w base t e i (.int k 0) 1 h1 h2 h3 h4 kl kc n b2 b3 b4
  unfold Oper.wp
  simp [execOp, hop, hl, hc, hrun, Result.andThen]
  refine hK w' ?_ r2
  unfold Own
  rw [List.length_replicate, List.map_replicate]
  have e : (madeCells (Value.int k 0).cells (n * 1)).toList = List.replicate n (Value.int k 0) := by rw [Nat.mul_one]; exact toList_madeCells_one _ _
  rw [← e]
  exact r1
theorem grown_none {w w' : World} (h : w.grownBy w' none) : Ext w w' := (Ext.refl w).grown h (Nat.le_refl _) (fun k e => by cases e)

section
variable {w : World} {v : Value} {L : List Ent} {I : Img}
set_option maxRecDepth 10000 in
set_option maxHeartbeats 1000000 in
theorem refPut_good (h : LR w v L) (hL : L.length ≤ 1000) (hA : I.L = absL L) (hbL : ∀ p ∈ L, p.2.2.2.length ≤ 140737488355328) (k : Nat) (f : Int) (W H s : Nat) (bo : Option Addr) (bcap : Nat) (bs : List Int) (hr : Row .u8 w (.slice bo bs.length bcap) bs)
    (hE : putE I k f W H bs.length = 0) (hk : k < 7) (hW : 1 ≤ W ∧ W ≤ 64) (hH : 1 ≤ H ∧ H ≤ 64) (hs : sizI f = (s : Int)) (hbs : bs.length = 0 ∨ bs.length = W * H * s) (A0 : List Lev) (hA0 : A0 = if f = I.f then I.L else []) :
    Calls Try.prog 12 #[.agg #[.int .i64 I.f, v, .int .i64 I.ws, .int .i64 I.wt, .int .i64 I.mn, .int .i64 I.mg], .int .i64 (k : Int), .int .i64 f, .agg #[.int .i64 (W : Int), .int .i64 (H : Int), .slice bo bs.length bcap]] w fun e w' => ∃ ao cap L', e = .returned (.tuple #[.agg #[.int .i64 f, .slice ao L'.length cap, .int .i64 I.ws, .int .i64 I.wt, .int .i64 I.mn, .int .i64 I.mg], .int .i64 0]) ∧
      LO w' w.heap.size (.slice ao L'.length cap) L' ∧ absL L' = putL A0 k (W, H, fillB (W * H * s) bs) ∧ Ext w w' := by
  obtain ⟨ao, cap, rfl, hao, hlc, hcm, _⟩ := h.shape
  have hcm2 : cap ≤ 9223372036854775807 := by unfold maxLen at hcm; omega
  obtain ⟨z1, z2, z3, z4, z5, z6⟩ := putE_zero hE
  have hfm := putE_fmt hE
  have hIl : I.L.length = L.length := by rw [hA, absL_len]
  rw [hIl] at hfm
  have hs4 : 1 ≤ s ∧ s ≤ 4 := by have := siz_bd f; omega
  have sdW : sideB (W : Int) = true := sideB_iff.2 z4
  have sdH : sideB (H : Int) = true := sideB_iff.2 z5
  obtain ⟨_, _, _, _, hb1, hb2⟩ := hr.shape
  have hbn : bs.length ≤ 9223372036854775807 := by unfold maxLen at hb2; omega
  have HH := hide h
  have HA := hide hA
  have HBL := hide hbL
  have HR := hide hr
  have HBS := hide hbs
  have HA0 := hide hA0
  have HOK := hide z1
  have H1 := hide (And.intro ((((Ext.refl w).alloc (.cells #[.int .i64 I.f, .slice ao L.length cap, .int .i64 I.ws, .int .i64 I.wt, .int .i64 I.mn, .int .i64 I.mg] 24)).alloc (.cells #[.int .i64 (W : Int), .int .i64 (H : Int), .slice bo bs.length bcap] 27)).alloc (.cells #[.int .i64 0, .slice none 0 0, .int .i64 0, .int .i64 0, .int .i64 0, .int .i64 0] 24))
    (And.intro (((Blk.new w #[.int .i64 I.f, .slice ao L.length cap, .int .i64 I.ws, .int .i64 I.wt, .int .i64 I.mn, .int .i64 I.mg] 24).alloc (.cells #[.int .i64 (W : Int), .int .i64 (H : Int), .slice bo bs.length bcap] 27)).alloc (.cells #[.int .i64 0, .slice none 0 0, .int .i64 0, .int .i64 0, .int .i64 0, .int .i64 0] 24))
    (And.intro ((Blk.at (w := w.alloc (.cells #[.int .i64 I.f, .slice ao L.length cap, .int .i64 I.ws, .int .i64 I.wt, .int .i64 I.mn, .int .i64 I.mg] 24)) (b := w.heap.size + 1) (cs := #[.int .i64 (W : Int), .int .i64 (H : Int), .slice bo bs.length bcap]) (t := 27) (by simp)).alloc (.cells #[.int .i64 0, .slice none 0 0, .int .i64 0, .int .i64 0, .int .i64 0, .int .i64 0] 24))
      (Blk.at (w := (w.alloc (.cells #[.int .i64 I.f, .slice ao L.length cap, .int .i64 I.ws, .int .i64 I.wt, .int .i64 I.mn, .int .i64 I.mg] 24)).alloc (.cells #[.int .i64 (W : Int), .int .i64 (H : Int), .slice bo bs.length bcap] 27)) (b := w.heap.size + 1 + 1) (cs := #[.int .i64 0, .slice none 0 0, .int .i64 0, .int .i64 0, .int .i64 0, .int .i64 0]) (t := 24) (by simp)))))
  clear h hA hbL hao hcm hE hr hb1 hb2 hbs hA0 z1 z3 z6 hIl
  have HSZ : Hid (∀ wx, Calls Try.prog 34 #[.int .i64 f] wx fun e w' => e = .returned (.int .i64 (s : Int)) ∧ w' = wx) := fun wx => by rw [← hs]; exact refSize_any f wx
  have HSE : Hid (∀ wx, Calls Try.prog 34 #[.int .i64 f] wx fun e w' => e = .returned (.int .i64 (s : Int)) ∧ Ext wx w') := fun wx => (unhide HSZ wx).mono fun e w' h => ⟨h.1, by rw [h.2]; exact Ext.refl _⟩
  clear hs
  have ds : ((s : Int) == 0) = false := by rw [beq_eq_false_iff_ne]; omega
  go_enter Try.func12, Try.ntmps12
  go_wp2_with fail
  generalize ((w.alloc (.cells #[.int .i64 I.f, .slice ao L.length cap, .int .i64 I.ws, .int .i64 I.wt, .int .i64 I.mn, .int .i64 I.mg] 24)).alloc (.cells #[.int .i64 (W : Int), .int .i64 (H : Int), .slice bo bs.length bcap] 27)).alloc (.cells #[.int .i64 0, .slice none 0 0, .int .i64 0, .int .i64 0, .int .i64 0, .int .i64 0] 24) = w1 at H1 ⊢
  refine (refRight_any (I := I) ((unhide HH).ext (unhide H1).1) (unhide HA)).mono ?_
  rintro e w2 ⟨rfl, hx2⟩
  rw [unhide HOK]
  have H2 := hide (And.intro ((unhide H1).1.trans hx2) (And.intro ((unhide H1).2.1.ext hx2) (And.intro ((unhide H1).2.2.1.ext hx2) ((unhide H1).2.2.2.ext hx2))))
  clear H1 hx2
  obtain ⟨l0, l1, l2⟩ := (unhide H2).2.2.1.three
  go_wp2_with fail
  refine (unhide HSZ _).mono ?_
  rintro e w3 ⟨rfl, rfl⟩
  go_wp2_with fail
  refine (refSide_any (W : Int) _).mono ?_
  rintro e w2 ⟨rfl, rfl⟩
  rw [sdW]
  go_wp2_with fail
  refine (refSide_any (H : Int) _).mono ?_
  rintro e w3 ⟨rfl, rfl⟩
  rw [sdH]
  have hWH : W * H ≤ 4096 := Nat.mul_le_mul hW.2 hH.2
  have hN : W * H * s ≤ 16384 := by
    have := Nat.mul_le_mul hWH hs4.2
    omega
  have e1 : ((W : Int) * (H : Int)) = ((W * H : Nat) : Int) := by simp
  have e2 : (W : Int) * (H : Int) * (s : Int) = ((W * H * s : Nat) : Int) := by simp
  have w1' : IntKind.i64.wrap ((W : Int) * (H : Int)) = (W : Int) * (H : Int) := by rw [e1]; generalize W * H = P at *; simp [IntKind.wrap, IntKind.bits, IntKind.signed]; omega
  have w2' : IntKind.i64.wrap ((W : Int) * (H : Int) * (s : Int)) = (W : Int) * (H : Int) * (s : Int) := by rw [e2]; generalize W * H * s = P at *; simp [IntKind.wrap, IntKind.bits, IntKind.signed]; omega
  have HE2 := hide e2
  clear e1 e2
  go_upto_region 5 with fail
  go_cut [41] (fun t wc => ∃ w5, w5 = wc ∧ t = .bool false ∧ Ext w3 wc)
  case first =>
    have k0 := cell_later l0
    have k1 := cell_later l1
    have k2 := cell_later l2
    have hsome := Later.some w3
    clear l0 l1 l2
    by_cases c8 : bs.length = 0
    · have d6 : ((bs.length : Int) != 0) = false := by simp [c8]
      clear c8
      refine wp_region_later (by kernel_rfl) (by kernel_rfl) ?_
      repeat (go_big_quiet_step (first | (go_at_call 34; refine calls_later (unhide HSE _))))
      refine wpQuiet_nil ?_
      rintro _ ⟨x, rfl⟩
      go_wp2
      go_meet
      exact ⟨_, rfl, rfl, x.ext⟩
    · have d6 : ((bs.length : Int) != 0) = true := by simp only [bne_iff_ne, ne_eq]; omega
      have d7 : ((bs.length : Int) != (W : Int) * (H : Int) * (s : Int)) = false := by
        rcases unhide HBS with h9 | h9
        · exact absurd h9 c8
        · rw [unhide HE2, h9]; simp
      clear c8
      refine wp_region_later (by kernel_rfl) (by kernel_rfl) ?_
      repeat (go_big_quiet_step (first | (go_at_call 34; refine calls_later (unhide HSE _))))
      refine wpQuiet_nil ?_
      rintro _ ⟨x, rfl⟩
      go_wp2
      go_meet
      exact ⟨_, rfl, rfl, x.ext⟩
  case rest =>
  obtain ⟨w5, rfl, rfl, hx5⟩ := hcut
  have H5 := hide (And.intro ((unhide H2).1.trans hx5) (And.intro ((unhide H2).2.1.ext hx5) (And.intro ((unhide H2).2.2.1.ext hx5) ((unhide H2).2.2.2.ext hx5))))
  clear H2 hx5 l0 l1 l2
  go_upto_region 7 with fail
  obtain ⟨q0, q1, q2, q3, q4, q5⟩ := (unhide H5).2.1.six
  go_cut [61] (fun t wc => t = .bool false ∧ w5 = wc)
  case first =>
    by_cases ck : k = 0
    · have d1 : ((k : Int) != 0) = false := by simp [ck]
      clear ck hfm
      go_wp2
      go_meet
      exact ⟨rfl, rfl⟩
    have d1 : ((k : Int) != 0) = true := by simp only [bne_iff_ne, ne_eq]; omega
    by_cases cl : L.length = 0
    · have d2 : ¬ (0 : Int) < (L.length : Int) := by omega
      clear ck cl hfm
      go_wp2
      go_meet
      exact ⟨rfl, rfl⟩
    have d2 : (0 : Int) < (L.length : Int) := by omega
    have d3 : (I.f != f) = false := by
      by_cases h9 : f = I.f
      · simp [h9]
      · exact absurd ⟨by omega, cl, h9⟩ hfm
    clear ck cl hfm
    go_wp2
    go_meet
    exact ⟨rfl, rfl⟩
  case rest =>
  obtain ⟨rfl, rfl⟩ := hcut
  have hsz5 := (unhide H5).2.2.2.lt
  go_wp2_with fail
  refine (refCopy_any (I := I) ((unhide HH).ext (unhide H5).1) (by omega) (unhide HBL)).mono ?_
  rintro e w6 ⟨ao3, cap3, D0, rfl, hlo6, habs6, hx6⟩
  have hB6 := (unhide H5).2.1.ext hx6
  clear q0 q1 q2 q3 q4 q5
  obtain ⟨q0, q1, q2, q3, q4, q5⟩ := hB6.six
  obtain ⟨f0, f1, f2, f3, f4, f5⟩ := hB6.frees
  have hg7 := grown_put6 w6 w.heap.size (.int .i64 I.f) (.slice ao3 D0.length cap3) (.int .i64 I.ws) (.int .i64 I.wt) (.int .i64 I.mn) (.int .i64 I.mg)
  have hX6 := (unhide H5).1.trans hx6
  have hP7 : RPS w ((((((w6.setCell ⟨w.heap.size, 0, none⟩ (.int .i64 I.f)).setCell ⟨w.heap.size, 1, none⟩ (.slice ao3 D0.length cap3)).setCell ⟨w.heap.size, 2, none⟩ (.int .i64 I.ws)).setCell ⟨w.heap.size, 3, none⟩ (.int .i64 I.wt)).setCell ⟨w.heap.size, 4, none⟩ (.int .i64 I.mn)).setCell ⟨w.heap.size, 5, none⟩ (.int .i64 I.mg)) w5.heap.size I W H (.slice bo bs.length bcap) ao3 cap3 D0 :=
    ⟨hB6.put6 _ _ _ _ _ _, hlo6.grown hB6 ⟨by decide, by decide⟩ hg7, ((unhide H5).2.2.1.ext hx6).grown hg7 (by omega), ((unhide H5).2.2.2.ext hx6).grown hg7 (by omega), by omega, below_grown hX6 hg7 hX6.size (Nat.le_refl _), Nat.le_trans hx6.size hg7.size⟩
  have HP7 := hide hP7
  have HABS := hide habs6
  have hD9 : D0.length ≤ 1000 := by
    have h5 := congrArg List.length habs6
    rw [absL_len, absL_len] at h5
    omega
  clear H5 hlo6 habs6 hx6 hB6 hg7 hX6 hP7
  go_upto_region 10 with fail
  generalize (((((w6.setCell ⟨w.heap.size, 0, none⟩ (.int .i64 I.f)).setCell ⟨w.heap.size, 1, none⟩ (.slice ao3 D0.length cap3)).setCell ⟨w.heap.size, 2, none⟩ (.int .i64 I.ws)).setCell ⟨w.heap.size, 3, none⟩ (.int .i64 I.wt)).setCell ⟨w.heap.size, 4, none⟩ (.int .i64 I.mn)).setCell ⟨w.heap.size, 5, none⟩ (.int .i64 I.mg) = w7 at HP7 ⊢
  clear q0 q1 q2 q3 q4 q5 f0 f1 f2 f3 f4 f5
  have hP := unhide HP7
  obtain ⟨q0, q1, q2, q3, q4, q5⟩ := hP.blk.six
  obtain ⟨f0, f1, f2, f3, f4, f5⟩ := hP.blk.frees
  by_cases hf : f = I.f
  · have bf : (I.f != f) = false := by simp [hf]
    have hAA : A0 = absL D0 := by rw [unhide HA0, if_pos hf, unhide HA, unhide HABS]
    have hg := grownBy_set w7 w.heap.size 0 (.int .i64 f)
    have hR : RPS w (w7.setCell ⟨w.heap.size, 0, none⟩ (.int .i64 f)) w5.heap.size ⟨f, I.L, I.ws, I.wt, I.mn, I.mg⟩ W H (.slice bo bs.length bcap) ao3 cap3 D0 := by
      refine ⟨?_, hP.lo.grown hP.blk ⟨by decide, by decide⟩ hg, hP.lev.grown hg (by omega), hP.res.grown hg (by omega), hP.low, below_grown hP.ext hg hP.ext.size (Nat.le_refl _), by have := hP.top; simpa using this⟩
      have := hP.blk.set 0 (.int .i64 f)
      simpa using this
    have HP8 := hide hR
    have HAS := hide hAA
    clear hf hAA hg hR hP HP7 HA0 HABS
    go_wp2_with fail
    generalize w7.setCell ⟨w.heap.size, 0, none⟩ (.int .i64 f) = w8 at HP8 ⊢
    clear q0 q1 q2 q3 q4 q5 f0 f1 f2 f3 f4 f5 bf
    go_loopw [86] (fun _ wr => ∃ (j : Nat) (ao : Option Addr) (cap : Nat) (D : List Ent), absL D = absL D0 ++ List.replicate j noLev ∧ (j = 0 ∨ D.length ≤ k + 1) ∧ D.length ≤ 1010 ∧ RPS w wr w5.heap.size ⟨f, I.L, I.ws, I.wt, I.mn, I.mg⟩ W H (.slice bo bs.length bcap) ao cap D) (fun _ wr => k + 1 - lenAt wr w.heap.size)
    case atStart => exact ⟨0, ao3, cap3, D0, by simp, .inl rfl, by omega, unhide HP8⟩
    case round =>
      clear HP8
      obtain ⟨j, ao5, cap5, D, habs, hj, hDl, hS⟩ := hrel
      have q1 := hS.blk.six.2.1
      have hla := lenAt_of q1
      have HLA := hide hla
      have HS := hide hS
      have hsz := hS.ext.size
      clear hla
      by_cases hlt : D.length ≤ k
      · have hlt2 : (D.length : Int) ≤ (k : Int) := by omega
        have HABJ := hide (And.intro habs hj)
        have HO := hide (hS.lo.ext ((Ext.refl wr).alloc (.cells #[.int .i64 0, .int .i64 0, .slice none 0 0] 27))).own
        clear hS habs hj
        go_wp2_with (at_builtin; refine wpList_append_lev rfl (.tmp 92) (.tmp 94) rfl w5.heap.size _ D zent rfl (unhide HO) wr.heap.size 1 rfl 27 (Blk.new _ _ _) rfl (by omega) ?b1 ?_)
        case b1 =>
          have h5 := (unhide HS).top
          simp
          omega
        intro ao6 cap6 w9 hown5 hg5
        obtain ⟨c1, f1, hS5⟩ := (unhide HS).more hown5 hg5
        have HS5 := hide hS5
        have HL5 := hide (lenAt_of hS5.blk.six.2.1)
        clear hown5 hg5 hS5
        go_wp2
        go_roundw
        case rel =>
          obtain ⟨ha, hj⟩ := unhide HABJ
          refine ⟨j + 1, ao6, cap6, D ++ [zent], ?_, .inr (by simp; omega), by simp; omega, ?_⟩
          · rw [absL_append, ha, List.append_assoc, List.replicate_succ']
            rfl
          · exact unhide HS5
        case measure =>
          have e1 := unhide HLA
          have e2 := unhide HL5
          simp at e2
          rw [e1, e2]
          omega
      · have hlt2 : ¬ (D.length : Int) ≤ (k : Int) := by omega
        have hpad := pad_end habs hj (by omega)
        have HPAD := hide hpad
        clear habs hj hpad hS
        go_upto_region 15 with fail
        have HCL : Hid (∀ wx, Ext wr wx → wx.cell? ⟨w.heap.size + 1, 0, none⟩ = some (.int .i64 (W : Int)) ∧ wx.cell? ⟨w.heap.size + 1, 1, none⟩ = some (.int .i64 (H : Int))) := fun wx hx => by
          obtain ⟨a, b, c⟩ := ((unhide HS).lev.ext hx).three
          exact ⟨a, b⟩
        clear q1
        go_cut [10] (fun p wc => ∃ w9 g, w9 = wc ∧ p = .slice (some ⟨g, 0, none⟩) (W * H * s) (W * H * s) ∧ Own .u8 wc wr.heap.size 5 (.slice (some ⟨g, 0, none⟩) (W * H * s) (W * H * s)) (List.replicate (W * H * s) 0) ∧ Ext wr wc)
        case first =>
          obtain ⟨i0, hi, hz0, hz1, hz2⟩ := info_parts info5
          have HS0 := HS
          clear HS
          refine wp_region_noPanic ?_
          refine wp_region_held_drew (S := fun wx => Ext wr wx) (by kernel_rfl) (ext_0 wr) (fun HS => ?_)
          refine wpAnyH_take (i := 0) (oi := { dst := some 97, op := Op.fieldAddr 27 (Operand.tmp 7) 0, type := 0, pos := _, after := _, guard := none }) (v := .pointer (some ⟨w.heap.size + 1, 0, none⟩)) rfl (by kernel_rfl) (by kernel_rfl) (by kernel_rfl) (fun _ _ _ h => h) (Or.inl ⟨by rfl, fun wx _ => by go_simp⟩) HS ?_
          simp only [Act.put, List.setIfInBounds_toArray, List.set_cons_zero, List.set_cons_succ]
          refine wpAnyH_take (i := 1) (oi := { dst := some 98, op := Op.load 3 (Operand.tmp 97), type := 3, pos := _, after := _, guard := none }) (v := .int .i64 (W : Int)) rfl (by kernel_rfl) (by kernel_rfl) (by kernel_rfl) (fun _ _ _ h => h) (Or.inl ⟨by rfl, fun wx hx => by obtain ⟨c0, c1⟩ := unhide HCL wx hx; go_simp⟩) HS ?_
          simp only [Act.put, List.setIfInBounds_toArray, List.set_cons_zero, List.set_cons_succ]
          refine wpAnyH_take (i := 2) (oi := { dst := some 99, op := Op.fieldAddr 27 (Operand.tmp 7) 1, type := 0, pos := _, after := _, guard := none }) (v := .pointer (some ⟨w.heap.size + 1, 1, none⟩)) rfl (by kernel_rfl) (by kernel_rfl) (by kernel_rfl) (fun _ _ _ h => h) (Or.inl ⟨by rfl, fun wx _ => by go_simp⟩) HS ?_
          simp only [Act.put, List.setIfInBounds_toArray, List.set_cons_zero, List.set_cons_succ]
          refine wpAnyH_take (i := 3) (oi := { dst := some 100, op := Op.load 3 (Operand.tmp 99), type := 3, pos := _, after := _, guard := none }) (v := .int .i64 (H : Int)) rfl (by kernel_rfl) (by kernel_rfl) (by kernel_rfl) (fun _ _ _ h => h) (Or.inl ⟨by rfl, fun wx hx => by obtain ⟨c0, c1⟩ := unhide HCL wx hx; go_simp⟩) HS ?_
          simp only [Act.put, List.setIfInBounds_toArray, List.set_cons_zero, List.set_cons_succ]
          refine wpAnyH_take (i := 4) (oi := { dst := some 101, op := Op.binOp BinOp.mul 3 (Operand.tmp 98) (Operand.tmp 100) 3, type := 3, pos := _, after := _, guard := none }) (v := .int .i64 ((W : Int) * (H : Int))) rfl (by kernel_rfl) (by kernel_rfl) (by kernel_rfl) (fun _ _ _ h => h) (Or.inl ⟨by rfl, fun wx _ => by go_simp⟩) HS ?_
          simp only [Act.put, List.setIfInBounds_toArray, List.set_cons_zero, List.set_cons_succ]
          refine wpAnyH_take (i := 5) (oi := { dst := some 102, op := Op.move (Operand.tmp 2), type := 3, pos := _, after := _, guard := none }) (v := .int .i64 f) rfl (by kernel_rfl) (by kernel_rfl) (by kernel_rfl) (fun _ _ _ h => h) (Or.inl ⟨by rfl, fun _ _ => rfl⟩) HS ?_
          simp only [Act.put, List.setIfInBounds_toArray, List.set_cons_zero, List.set_cons_succ]
          refine wpAnyH_ready (rs := [6]) (by kernel_rfl) (by simp) (AllReadyH.cons (o := { dst := some 103, op := Op.call { callee := Callee.value (Operand.func 34), args := #[Operand.tmp 102], argTypes := #[3] }, type := 3, pos := _, after := _, guard := none }) rfl (fun KK hK => ?_) AllReadyH.nil)
          go_simp
          refine (unhide HSZ _).mono ?_
          rintro e ws ⟨rfl, rfl⟩
          refine hK.out _ _ HS (fun _ => ?_)
          clear hK KK
          try simp only [Act.put, List.setIfInBounds_toArray, List.set_cons_zero, List.set_cons_succ]
          refine wpAnyH_take (i := 7) (oi := { dst := some 104, op := Op.binOp BinOp.mul 3 (Operand.tmp 101) (Operand.tmp 103) 3, type := 3, pos := _, after := _, guard := none }) (v := .int .i64 ((W : Int) * (H : Int) * (s : Int))) rfl (by kernel_rfl) (by kernel_rfl) (by kernel_rfl) (fun _ _ _ h => h) (Or.inl ⟨by rfl, fun wx _ => by go_simp⟩) HS ?_
          simp only [Act.put, List.setIfInBounds_toArray, List.set_cons_zero, List.set_cons_succ]
          refine wpAnyH_ready (rs := [8]) (by kernel_rfl) (by simp) (AllReadyH.cons (o := { dst := some 105, op := Op.makeSlice 25 (Operand.tmp 104) (Operand.tmp 104), type := 25, pos := _, after := _, guard := none }) rfl (fun KK hK => ?_) AllReadyH.nil)
          refine Eq.mpr (if_pos (by rfl)) ?_
          refine wp_make_Zeros _ (.tmp 104) (.tmp 104) 25 rfl wr.heap.size 5 i0 .u8 Try.underlying25 hi hz0 hz1 .i64 .i64 (W * H * s) (congrArg (Value.int .i64) (unhide HE2)) (congrArg (Value.int .i64) (unhide HE2)) (by rw [hz2]; omega) (by unfold maxLen; omega) HS.size ?_
          intro wm hom hgm
          have HS2 := HS.trans (grown_none hgm)
          clear HS
          have HS := HS2
          clear HS2
          refine hK.out _ _ HS (fun _ => ?_)
          clear hK KK
          try simp only [Act.put, List.setIfInBounds_toArray, List.set_cons_zero, List.set_cons_succ]
          refine wpAnyH_take (i := 9) (oi := { dst := some 10, op := Op.assign (Operand.tmp 105), type := 25, pos := _, after := _, guard := none }) (v := .slice (some ⟨wr.heap.size, 0, none⟩) (W * H * s) (W * H * s)) rfl (by kernel_rfl) (by kernel_rfl) (by kernel_rfl) (fun _ _ _ h => h) (Or.inl ⟨by rfl, fun _ _ => rfl⟩) HS ?_
          simp only [Act.put, List.setIfInBounds_toArray, List.set_cons_zero, List.set_cons_succ]
          refine wpAnyH_done (by kernel_rfl) ?_ _
          refine NoPanic.normal ?_
          go_wp2
          go_meet
          exact ⟨_, _, rfl, rfl, hom, HS⟩
        case rest =>
        obtain ⟨w9, g, rfl, rfl, hPO, hx6⟩ := hcut
        have hS6 := (unhide HS).exts hx6
        obtain ⟨l0, l1, l2⟩ := hS6.lev.three
        have hR6 := (unhide HR).ext hS6.ext
        have hcopy : ∃ w7, (∀ ty, (Builtin.copy_ #[25, 25] ty #[.slice (some ⟨g, 0, none⟩) (W * H * s) (W * H * s), .slice bo bs.length bcap]).run Try.prog w9 = .ok (goInt bs.length) w7) ∧ Own .u8 w7 wr.heap.size 5 (.slice (some ⟨g, 0, none⟩) (W * H * s) (W * H * s)) (fillB (W * H * s) bs) ∧ w9.grownBy w7 (some g) := by
          by_cases h0 : bs.length = 0
          · refine ⟨w9, fun ty => ?_, ?_, World.grownBy.refl _ _⟩
            · have := run_copy_none (P := Try.prog) w9 25 25 ty 5 (some ⟨g, 0, none⟩) bo (W * H * s) (W * H * s) bs.length bcap Try.underlying25 size8 (by simp [h0])
              rw [h0] at this ⊢
              exact this
            · unfold fillB
              rw [if_pos h0]
              exact hPO
          · have hn : bs.length = W * H * s := by
              rcases unhide HBS with h | h
              · exact absurd h h0
              · exact h
            have h5 := copy_in hPO 0 (ys := bs) (by simp [hn]) hR6 (by omega) (W * H * s)
            obtain ⟨w7, c1, c2, c3⟩ := h5
            rw [hn] at c1 ⊢
            refine ⟨w7, c1, ?_, c3⟩
            have e : layB (List.replicate (W * H * s) 0) 0 bs = fillB (W * H * s) bs := by
              unfold layB fillB
              rw [if_neg h0]
              simp [hn]
            rw [← e]
            exact c2
        obtain ⟨w10, hrun, hPO7, hg7⟩ := hcopy
        simp only [goInt] at hrun
        have hng : ∀ {b : Nat} {cs : Array Value} {t : TypeId}, Blk w9 b cs t → t ≠ 5 → Blk w10 b cs t := fun {b cs t} hb ht => hb.grown hg7 (blk_neU hb ht hPO)
        have hgr : wr.heap.size ≤ g := (hPO.lt g rfl).1
        have hLO7 : LO w10 w5.heap.size (.slice ao5 D.length cap5) D := by
          obtain ⟨gL, cur, eL, _, hbL2, hcur⟩ := hS6.lo.blk (by omega)
          subst eL
          refine ⟨World.ownsRow.kept hS6.lo.own hg7 (.inr fun e => ?_), fun p hp => (hS6.lo.bys p hp).grown hg7 fun b hb e => ?_, hS6.lo.alone⟩
          · simp [Value.ownBlock] at e
            subst e
            exact absurd hcur (own_ne hcur hPO gL rfl rfl).elim
          · have h9 := (((unhide HS).lo.bys p hp).lt b hb).2
            omega
        have hX7 : Ext w w10 := below_grown hS6.ext hg7 hS6.ext.size (by have := (unhide HS).ext.size; omega)
        have hS7 : RPS w w10 w5.heap.size ⟨f, I.L, I.ws, I.wt, I.mn, I.mg⟩ W H (.slice bo bs.length bcap) ao5 cap5 D := ⟨hng hS6.blk (by decide), hLO7, hng hS6.lev (by decide), hng hS6.res (by decide), hS6.low, hX7, Nat.le_trans hS6.top hg7.size⟩
        have hnew : ∀ p ∈ D, ∀ b, p.2.2.1.ownBlock = some b → (Value.slice (some ⟨g, 0, none⟩) (W * H * s) (W * H * s)).ownBlock ≠ some b := fun p hp b hb e => by
          have h9 := (((unhide HS).lo.bys p hp).lt b hb).2
          simp [Value.ownBlock] at e
          omega
        have u1 := hS7.blk.six.2.1
        obtain ⟨m0, m1, m2⟩ := hS7.lev.three
        obtain ⟨gL, cur, eL, _, hbL2, hcur⟩ := hS7.lo.blk (by omega)
        subst eL
        have hkD : k < D.length := by omega
        obtain ⟨bx, offx, box, bcapx, e1, ebx, c0, c1, c2, _⟩ := hS7.lo.lr.at k hkD
        cases e1
        simp only [Nat.zero_add] at c0 c1 c2
        have z0 := World.ownsRow.frozenAt hS7.lo.own (k * 3)
        have z1 := World.ownsRow.frozenAt hS7.lo.own (k * 3 + 1)
        have z2 := World.ownsRow.frozenAt hS7.lo.own (k * 3 + 2)
        have hkD2 : (k : Int) < (D.length : Int) := by omega
        have hDc : D.length ≤ cap5 ∧ cap5 ≤ 9223372036854775807 := by
          obtain ⟨_, _, e9, _, h9, h10⟩ := hS7.lo.cut
          cases e9
          unfold maxLen at h10
          exact ⟨h9, by omega⟩
        obtain ⟨hDc1, hDc2⟩ := hDc
        have hsplit : D = D.take k ++ D[k] :: D.drop (k + 1) := by rw [← List.drop_eq_getElem_cons hkD, List.take_append_drop]
        have hlt : (D.take k).length = k := by simp; omega
        have hset := LO.setAt (w := w10) (base := w5.heap.size) (g := gL) (n := D.length) (cap := cap5) (A := D.take k) (x := D[k]) (B := D.drop (k + 1)) (by rw [← hsplit]; exact hS7.lo) ((W : Int), (H : Int), .slice (some ⟨g, 0, none⟩) (W * H * s) (W * H * s), fillB (W * H * s) bs) (hPO7.lower (by have := (unhide HS).top; omega))
          (fun p hp b hb => hnew p (by
            rcases List.mem_append.1 hp with hp | hp
            · exact List.mem_of_mem_take hp
            · exact List.mem_of_mem_drop hp) b hb)
        rw [hlt] at hset
        simp only at hset
        have hg8 := grown_set3L w10 gL (k * 3) (.int .i64 (W : Int)) (.int .i64 (H : Int)) (.slice (some ⟨g, 0, none⟩) (W * H * s) (W * H * s))
        have hY8 := hS7.blk.grown hg8 (blk_ne hS7.blk (by decide) hcur)
        have hR8 := hS7.res.grown hg8 (blk_ne hS7.res (by decide) hcur)
        have hX8 : Ext w _ := below_grown hS7.ext hg8 hS7.ext.size (by have := hS7.low; omega)
        have hlen8 : (D.take k ++ ((W : Int), (H : Int), Value.slice (some ⟨g, 0, none⟩) (W * H * s) (W * H * s), fillB (W * H * s) bs) :: D.drop (k + 1)).length = D.length := by simp; omega
        have hab8 : absL (D.take k ++ ((W : Int), (H : Int), Value.slice (some ⟨g, 0, none⟩) (W * H * s) (W * H * s), fillB (W * H * s) bs) :: D.drop (k + 1)) = putL A0 k (W, H, fillB (W * H * s) bs) := by
          unfold putL
          rw [unhide HAS, ← unhide HPAD]
          have hkA : k < (absL D).length := by rw [absL_len]; exact hkD
          rw [List.set_eq_take_append_cons_drop, if_pos hkA]
          unfold absL
          rw [List.map_append, List.map_take, List.map_cons, List.map_drop]
          rfl
        generalize hD8 : (D.take k ++ ((W : Int), (H : Int), Value.slice (some ⟨g, 0, none⟩) (W * H * s) (W * H * s), fillB (W * H * s) bs) :: D.drop (k + 1)) = D8 at hset hlen8 hab8
        clear hD8
        have hlow8 := hS7.low
        have H8 := hide (And.intro hset (And.intro hY8 (And.intro hR8 (And.intro hX8 (And.intro hlen8 hab8)))))
        clear hset hY8 hR8 hX8 hlen8 hab8 hg8 hsplit hlt hS7 hnew hX7 hLO7 hng hg7 hPO7 hS6 hR6 hPO hx6 hcur ebx hbL2
        go_upto_region 18 with fail
        generalize ((w10.setCell ⟨gL, k * 3, none⟩ (.int .i64 (W : Int))).setCell ⟨gL, k * 3 + 1, none⟩ (.int .i64 (H : Int))).setCell ⟨gL, k * 3 + 2, none⟩ (.slice (some ⟨g, 0, none⟩) (W * H * s) (W * H * s)) = w11 at H8 ⊢
        clear hrun c0 c1 c2 z0 z1 z2 u1 l0 l1 l2 m0 m1 m2
        obtain ⟨hset, hY8, hR8, hX8, hlen8, hab8⟩ := unhide H8
        clear H8
        obtain ⟨q0, q1, q2, q3, q4, q5⟩ := hY8.six
        obtain ⟨p0, p1, p2, p3, p4, p5⟩ := hR8.six
        obtain ⟨f0, f1, f2, f3, f4, f5⟩ := hR8.frees
        have hB9 := hR8.put6 (.int .i64 f) (.slice (some ⟨gL, 0, none⟩) D.length cap5) (.int .i64 I.ws) (.int .i64 I.wt) (.int .i64 I.mn) (.int .i64 I.mg)
        have hg9 := grown_put6 w11 (w.heap.size + 1 + 1) (.int .i64 f) (.slice (some ⟨gL, 0, none⟩) D.length cap5) (.int .i64 I.ws) (.int .i64 I.wt) (.int .i64 I.mn) (.int .i64 I.mg)
        have hL9 := (hset.grown hR8 ⟨by decide, by decide⟩ hg9).lower (b2 := w.heap.size) (by omega)
        have hX9 : Ext w _ := below_grown hX8 hg9 hX8.size (by omega)
        have H9 := hide (And.intro hB9 (And.intro hL9 (And.intro hX9 (And.intro hlen8 hab8))))
        clear hset hY8 hR8 hX8 hlen8 hab8 hB9 hg9 hL9 hX9
        go_wp2
        obtain ⟨hB9, hL9, hX9, hlen8, hab8⟩ := unhide H9
        obtain ⟨r0, r1, r2, r3, r4, r5⟩ := hB9.six
        refine bodyPost_ret (v := .tuple #[.agg #[.int .i64 f, .slice (some ⟨gL, 0, none⟩) D.length cap5, .int .i64 I.ws, .int .i64 I.wt, .int .i64 I.mn, .int .i64 I.mg], .int .i64 0]) (by simp [results, Try.results12, go_sem, r0, r1, r2, r3, r4, r5]) rfl ?_
        exact ⟨some ⟨gL, 0, none⟩, cap5, D8, by rw [hlen8], by rw [hlen8]; exact hL9, hab8, hX9⟩
  · have bf : (I.f != f) = true := by simp only [bne_iff_ne, ne_eq]; exact fun h9 => hf h9.symm
    have hAA : A0 = absL [] := by rw [unhide HA0, if_neg hf]; rfl
    have hg1 := grownBy_set w7 w.heap.size 1 (.slice none 0 0)
    have hg := grownBy_set (w7.setCell ⟨w.heap.size, 1, none⟩ (.slice none 0 0)) w.heap.size 0 (.int .i64 f)
    have hgg := hg1.trans hg
    have hR : RPS w ((w7.setCell ⟨w.heap.size, 1, none⟩ (.slice none 0 0)).setCell ⟨w.heap.size, 0, none⟩ (.int .i64 f)) w5.heap.size ⟨f, I.L, I.ws, I.wt, I.mn, I.mg⟩ W H (.slice bo bs.length bcap) none 0 [] := by
      refine ⟨?_, LO.nil _ _, hP.lev.grown hgg (by omega), hP.res.grown hgg (by omega), hP.low, below_grown hP.ext hgg hP.ext.size (Nat.le_refl _), by have := hP.top; simpa using this⟩
      have := (hP.blk.set 1 (.slice none 0 0)).set 0 (.int .i64 f)
      simpa using this
    have HP8 := hide hR
    have HAS := hide hAA
    have hD9' : ([] : List Ent).length ≤ 1000 := by simp
    clear hf hAA hg hg1 hgg hR hP HP7 HA0 HABS hD9
    go_wp2_with fail
    generalize (w7.setCell ⟨w.heap.size, 1, none⟩ (.slice none 0 0)).setCell ⟨w.heap.size, 0, none⟩ (.int .i64 f) = w8 at HP8 ⊢
    clear q0 q1 q2 q3 q4 q5 f0 f1 f2 f3 f4 f5 bf
    go_loopw [86] (fun _ wr => ∃ (j : Nat) (ao : Option Addr) (cap : Nat) (D : List Ent), absL D = absL ([] : List Ent) ++ List.replicate j noLev ∧ (j = 0 ∨ D.length ≤ k + 1) ∧ D.length ≤ 1010 ∧ RPS w wr w5.heap.size ⟨f, I.L, I.ws, I.wt, I.mn, I.mg⟩ W H (.slice bo bs.length bcap) ao cap D) (fun _ wr => k + 1 - lenAt wr w.heap.size)
    case atStart => exact ⟨0, none, 0, ([] : List Ent), by simp, .inl rfl, by omega, unhide HP8⟩
    case round =>
      clear HP8
      obtain ⟨j, ao5, cap5, D, habs, hj, hDl, hS⟩ := hrel
      have q1 := hS.blk.six.2.1
      have hla := lenAt_of q1
      have HLA := hide hla
      have HS := hide hS
      have hsz := hS.ext.size
      clear hla
      by_cases hlt : D.length ≤ k
      · have hlt2 : (D.length : Int) ≤ (k : Int) := by omega
        have HABJ := hide (And.intro habs hj)
        have HO := hide (hS.lo.ext ((Ext.refl wr).alloc (.cells #[.int .i64 0, .int .i64 0, .slice none 0 0] 27))).own
        clear hS habs hj
        go_wp2_with (at_builtin; refine wpList_append_lev rfl (.tmp 92) (.tmp 94) rfl w5.heap.size _ D zent rfl (unhide HO) wr.heap.size 1 rfl 27 (Blk.new _ _ _) rfl (by omega) ?b1 ?_)
        case b1 =>
          have h5 := (unhide HS).top
          simp
          omega
        intro ao6 cap6 w9 hown5 hg5
        obtain ⟨c1, f1, hS5⟩ := (unhide HS).more hown5 hg5
        have HS5 := hide hS5
        have HL5 := hide (lenAt_of hS5.blk.six.2.1)
        clear hown5 hg5 hS5
        go_wp2
        go_roundw
        case rel =>
          obtain ⟨ha, hj⟩ := unhide HABJ
          refine ⟨j + 1, ao6, cap6, D ++ [zent], ?_, .inr (by simp; omega), by simp; omega, ?_⟩
          · rw [absL_append, ha, List.append_assoc, List.replicate_succ']
            rfl
          · exact unhide HS5
        case measure =>
          have e1 := unhide HLA
          have e2 := unhide HL5
          simp at e2
          rw [e1, e2]
          omega
      · have hlt2 : ¬ (D.length : Int) ≤ (k : Int) := by omega
        have hpad := pad_end habs hj (by omega)
        have HPAD := hide hpad
        clear habs hj hpad hS
        go_upto_region 15 with fail
        have HCL : Hid (∀ wx, Ext wr wx → wx.cell? ⟨w.heap.size + 1, 0, none⟩ = some (.int .i64 (W : Int)) ∧ wx.cell? ⟨w.heap.size + 1, 1, none⟩ = some (.int .i64 (H : Int))) := fun wx hx => by
          obtain ⟨a, b, c⟩ := ((unhide HS).lev.ext hx).three
          exact ⟨a, b⟩
        clear q1
        go_cut [10] (fun p wc => ∃ w9 g, w9 = wc ∧ p = .slice (some ⟨g, 0, none⟩) (W * H * s) (W * H * s) ∧ Own .u8 wc wr.heap.size 5 (.slice (some ⟨g, 0, none⟩) (W * H * s) (W * H * s)) (List.replicate (W * H * s) 0) ∧ Ext wr wc)
        case first =>
          obtain ⟨i0, hi, hz0, hz1, hz2⟩ := info_parts info5
          have HS0 := HS
          clear HS
          refine wp_region_noPanic ?_
          refine wp_region_held_drew (S := fun wx => Ext wr wx) (by kernel_rfl) (ext_0 wr) (fun HS => ?_)
          refine wpAnyH_take (i := 0) (oi := { dst := some 97, op := Op.fieldAddr 27 (Operand.tmp 7) 0, type := 0, pos := _, after := _, guard := none }) (v := .pointer (some ⟨w.heap.size + 1, 0, none⟩)) rfl (by kernel_rfl) (by kernel_rfl) (by kernel_rfl) (fun _ _ _ h => h) (Or.inl ⟨by rfl, fun wx _ => by go_simp⟩) HS ?_
          simp only [Act.put, List.setIfInBounds_toArray, List.set_cons_zero, List.set_cons_succ]
          refine wpAnyH_take (i := 1) (oi := { dst := some 98, op := Op.load 3 (Operand.tmp 97), type := 3, pos := _, after := _, guard := none }) (v := .int .i64 (W : Int)) rfl (by kernel_rfl) (by kernel_rfl) (by kernel_rfl) (fun _ _ _ h => h) (Or.inl ⟨by rfl, fun wx hx => by obtain ⟨c0, c1⟩ := unhide HCL wx hx; go_simp⟩) HS ?_
          simp only [Act.put, List.setIfInBounds_toArray, List.set_cons_zero, List.set_cons_succ]
          refine wpAnyH_take (i := 2) (oi := { dst := some 99, op := Op.fieldAddr 27 (Operand.tmp 7) 1, type := 0, pos := _, after := _, guard := none }) (v := .pointer (some ⟨w.heap.size + 1, 1, none⟩)) rfl (by kernel_rfl) (by kernel_rfl) (by kernel_rfl) (fun _ _ _ h => h) (Or.inl ⟨by rfl, fun wx _ => by go_simp⟩) HS ?_
          simp only [Act.put, List.setIfInBounds_toArray, List.set_cons_zero, List.set_cons_succ]
          refine wpAnyH_take (i := 3) (oi := { dst := some 100, op := Op.load 3 (Operand.tmp 99), type := 3, pos := _, after := _, guard := none }) (v := .int .i64 (H : Int)) rfl (by kernel_rfl) (by kernel_rfl) (by kernel_rfl) (fun _ _ _ h => h) (Or.inl ⟨by rfl, fun wx hx => by obtain ⟨c0, c1⟩ := unhide HCL wx hx; go_simp⟩) HS ?_
          simp only [Act.put, List.setIfInBounds_toArray, List.set_cons_zero, List.set_cons_succ]
          refine wpAnyH_take (i := 4) (oi := { dst := some 101, op := Op.binOp BinOp.mul 3 (Operand.tmp 98) (Operand.tmp 100) 3, type := 3, pos := _, after := _, guard := none }) (v := .int .i64 ((W : Int) * (H : Int))) rfl (by kernel_rfl) (by kernel_rfl) (by kernel_rfl) (fun _ _ _ h => h) (Or.inl ⟨by rfl, fun wx _ => by go_simp⟩) HS ?_
          simp only [Act.put, List.setIfInBounds_toArray, List.set_cons_zero, List.set_cons_succ]
          refine wpAnyH_take (i := 5) (oi := { dst := some 102, op := Op.move (Operand.tmp 2), type := 3, pos := _, after := _, guard := none }) (v := .int .i64 f) rfl (by kernel_rfl) (by kernel_rfl) (by kernel_rfl) (fun _ _ _ h => h) (Or.inl ⟨by rfl, fun _ _ => rfl⟩) HS ?_
          simp only [Act.put, List.setIfInBounds_toArray, List.set_cons_zero, List.set_cons_succ]
          refine wpAnyH_ready (rs := [6]) (by kernel_rfl) (by simp) (AllReadyH.cons (o := { dst := some 103, op := Op.call { callee := Callee.value (Operand.func 34), args := #[Operand.tmp 102], argTypes := #[3] }, type := 3, pos := _, after := _, guard := none }) rfl (fun KK hK => ?_) AllReadyH.nil)
          go_simp
          refine (unhide HSZ _).mono ?_
          rintro e ws ⟨rfl, rfl⟩
          refine hK.out _ _ HS (fun _ => ?_)
          clear hK KK
          try simp only [Act.put, List.setIfInBounds_toArray, List.set_cons_zero, List.set_cons_succ]
          refine wpAnyH_take (i := 7) (oi := { dst := some 104, op := Op.binOp BinOp.mul 3 (Operand.tmp 101) (Operand.tmp 103) 3, type := 3, pos := _, after := _, guard := none }) (v := .int .i64 ((W : Int) * (H : Int) * (s : Int))) rfl (by kernel_rfl) (by kernel_rfl) (by kernel_rfl) (fun _ _ _ h => h) (Or.inl ⟨by rfl, fun wx _ => by go_simp⟩) HS ?_
          simp only [Act.put, List.setIfInBounds_toArray, List.set_cons_zero, List.set_cons_succ]
          refine wpAnyH_ready (rs := [8]) (by kernel_rfl) (by simp) (AllReadyH.cons (o := { dst := some 105, op := Op.makeSlice 25 (Operand.tmp 104) (Operand.tmp 104), type := 25, pos := _, after := _, guard := none }) rfl (fun KK hK => ?_) AllReadyH.nil)
          refine Eq.mpr (if_pos (by rfl)) ?_
          refine wp_make_Zeros _ (.tmp 104) (.tmp 104) 25 rfl wr.heap.size 5 i0 .u8 Try.underlying25 hi hz0 hz1 .i64 .i64 (W * H * s) (congrArg (Value.int .i64) (unhide HE2)) (congrArg (Value.int .i64) (unhide HE2)) (by rw [hz2]; omega) (by unfold maxLen; omega) HS.size ?_
          intro wm hom hgm
          have HS2 := HS.trans (grown_none hgm)
          clear HS
          have HS := HS2
          clear HS2
          refine hK.out _ _ HS (fun _ => ?_)
          clear hK KK
          try simp only [Act.put, List.setIfInBounds_toArray, List.set_cons_zero, List.set_cons_succ]
          refine wpAnyH_take (i := 9) (oi := { dst := some 10, op := Op.assign (Operand.tmp 105), type := 25, pos := _, after := _, guard := none }) (v := .slice (some ⟨wr.heap.size, 0, none⟩) (W * H * s) (W * H * s)) rfl (by kernel_rfl) (by kernel_rfl) (by kernel_rfl) (fun _ _ _ h => h) (Or.inl ⟨by rfl, fun _ _ => rfl⟩) HS ?_
          simp only [Act.put, List.setIfInBounds_toArray, List.set_cons_zero, List.set_cons_succ]
          refine wpAnyH_done (by kernel_rfl) ?_ _
          refine NoPanic.normal ?_
          go_wp2
          go_meet
          exact ⟨_, _, rfl, rfl, hom, HS⟩
        case rest =>
        obtain ⟨w9, g, rfl, rfl, hPO, hx6⟩ := hcut
        have hS6 := (unhide HS).exts hx6
        obtain ⟨l0, l1, l2⟩ := hS6.lev.three
        have hR6 := (unhide HR).ext hS6.ext
        have hcopy : ∃ w7, (∀ ty, (Builtin.copy_ #[25, 25] ty #[.slice (some ⟨g, 0, none⟩) (W * H * s) (W * H * s), .slice bo bs.length bcap]).run Try.prog w9 = .ok (goInt bs.length) w7) ∧ Own .u8 w7 wr.heap.size 5 (.slice (some ⟨g, 0, none⟩) (W * H * s) (W * H * s)) (fillB (W * H * s) bs) ∧ w9.grownBy w7 (some g) := by
          by_cases h0 : bs.length = 0
          · refine ⟨w9, fun ty => ?_, ?_, World.grownBy.refl _ _⟩
            · have := run_copy_none (P := Try.prog) w9 25 25 ty 5 (some ⟨g, 0, none⟩) bo (W * H * s) (W * H * s) bs.length bcap Try.underlying25 size8 (by simp [h0])
              rw [h0] at this ⊢
              exact this
            · unfold fillB
              rw [if_pos h0]
              exact hPO
          · have hn : bs.length = W * H * s := by
              rcases unhide HBS with h | h
              · exact absurd h h0
              · exact h
            have h5 := copy_in hPO 0 (ys := bs) (by simp [hn]) hR6 (by omega) (W * H * s)
            obtain ⟨w7, c1, c2, c3⟩ := h5
            rw [hn] at c1 ⊢
            refine ⟨w7, c1, ?_, c3⟩
            have e : layB (List.replicate (W * H * s) 0) 0 bs = fillB (W * H * s) bs := by
              unfold layB fillB
              rw [if_neg h0]
              simp [hn]
            rw [← e]
            exact c2
        obtain ⟨w10, hrun, hPO7, hg7⟩ := hcopy
        simp only [goInt] at hrun
        have hng : ∀ {b : Nat} {cs : Array Value} {t : TypeId}, Blk w9 b cs t → t ≠ 5 → Blk w10 b cs t := fun {b cs t} hb ht => hb.grown hg7 (blk_neU hb ht hPO)
        have hgr : wr.heap.size ≤ g := (hPO.lt g rfl).1
        have hLO7 : LO w10 w5.heap.size (.slice ao5 D.length cap5) D := by
          obtain ⟨gL, cur, eL, _, hbL2, hcur⟩ := hS6.lo.blk (by omega)
          subst eL
          refine ⟨World.ownsRow.kept hS6.lo.own hg7 (.inr fun e => ?_), fun p hp => (hS6.lo.bys p hp).grown hg7 fun b hb e => ?_, hS6.lo.alone⟩
          · simp [Value.ownBlock] at e
            subst e
            exact absurd hcur (own_ne hcur hPO gL rfl rfl).elim
          · have h9 := (((unhide HS).lo.bys p hp).lt b hb).2
            omega
        have hX7 : Ext w w10 := below_grown hS6.ext hg7 hS6.ext.size (by have := (unhide HS).ext.size; omega)
        have hS7 : RPS w w10 w5.heap.size ⟨f, I.L, I.ws, I.wt, I.mn, I.mg⟩ W H (.slice bo bs.length bcap) ao5 cap5 D := ⟨hng hS6.blk (by decide), hLO7, hng hS6.lev (by decide), hng hS6.res (by decide), hS6.low, hX7, Nat.le_trans hS6.top hg7.size⟩
        have hnew : ∀ p ∈ D, ∀ b, p.2.2.1.ownBlock = some b → (Value.slice (some ⟨g, 0, none⟩) (W * H * s) (W * H * s)).ownBlock ≠ some b := fun p hp b hb e => by
          have h9 := (((unhide HS).lo.bys p hp).lt b hb).2
          simp [Value.ownBlock] at e
          omega
        have u1 := hS7.blk.six.2.1
        obtain ⟨m0, m1, m2⟩ := hS7.lev.three
        obtain ⟨gL, cur, eL, _, hbL2, hcur⟩ := hS7.lo.blk (by omega)
        subst eL
        have hkD : k < D.length := by omega
        obtain ⟨bx, offx, box, bcapx, e1, ebx, c0, c1, c2, _⟩ := hS7.lo.lr.at k hkD
        cases e1
        simp only [Nat.zero_add] at c0 c1 c2
        have z0 := World.ownsRow.frozenAt hS7.lo.own (k * 3)
        have z1 := World.ownsRow.frozenAt hS7.lo.own (k * 3 + 1)
        have z2 := World.ownsRow.frozenAt hS7.lo.own (k * 3 + 2)
        have hkD2 : (k : Int) < (D.length : Int) := by omega
        have hDc : D.length ≤ cap5 ∧ cap5 ≤ 9223372036854775807 := by
          obtain ⟨_, _, e9, _, h9, h10⟩ := hS7.lo.cut
          cases e9
          unfold maxLen at h10
          exact ⟨h9, by omega⟩
        obtain ⟨hDc1, hDc2⟩ := hDc
        have hsplit : D = D.take k ++ D[k] :: D.drop (k + 1) := by rw [← List.drop_eq_getElem_cons hkD, List.take_append_drop]
        have hlt : (D.take k).length = k := by simp; omega
        have hset := LO.setAt (w := w10) (base := w5.heap.size) (g := gL) (n := D.length) (cap := cap5) (A := D.take k) (x := D[k]) (B := D.drop (k + 1)) (by rw [← hsplit]; exact hS7.lo) ((W : Int), (H : Int), .slice (some ⟨g, 0, none⟩) (W * H * s) (W * H * s), fillB (W * H * s) bs) (hPO7.lower (by have := (unhide HS).top; omega))
          (fun p hp b hb => hnew p (by
            rcases List.mem_append.1 hp with hp | hp
            · exact List.mem_of_mem_take hp
            · exact List.mem_of_mem_drop hp) b hb)
        rw [hlt] at hset
        simp only at hset
        have hg8 := grown_set3L w10 gL (k * 3) (.int .i64 (W : Int)) (.int .i64 (H : Int)) (.slice (some ⟨g, 0, none⟩) (W * H * s) (W * H * s))
        have hY8 := hS7.blk.grown hg8 (blk_ne hS7.blk (by decide) hcur)
        have hR8 := hS7.res.grown hg8 (blk_ne hS7.res (by decide) hcur)
        have hX8 : Ext w _ := below_grown hS7.ext hg8 hS7.ext.size (by have := hS7.low; omega)
        have hlen8 : (D.take k ++ ((W : Int), (H : Int), Value.slice (some ⟨g, 0, none⟩) (W * H * s) (W * H * s), fillB (W * H * s) bs) :: D.drop (k + 1)).length = D.length := by simp; omega
        have hab8 : absL (D.take k ++ ((W : Int), (H : Int), Value.slice (some ⟨g, 0, none⟩) (W * H * s) (W * H * s), fillB (W * H * s) bs) :: D.drop (k + 1)) = putL A0 k (W, H, fillB (W * H * s) bs) := by
          unfold putL
          rw [unhide HAS, ← unhide HPAD]
          have hkA : k < (absL D).length := by rw [absL_len]; exact hkD
          rw [List.set_eq_take_append_cons_drop, if_pos hkA]
          unfold absL
          rw [List.map_append, List.map_take, List.map_cons, List.map_drop]
          rfl
        generalize hD8 : (D.take k ++ ((W : Int), (H : Int), Value.slice (some ⟨g, 0, none⟩) (W * H * s) (W * H * s), fillB (W * H * s) bs) :: D.drop (k + 1)) = D8 at hset hlen8 hab8
        clear hD8
        have hlow8 := hS7.low
        have H8 := hide (And.intro hset (And.intro hY8 (And.intro hR8 (And.intro hX8 (And.intro hlen8 hab8)))))
        clear hset hY8 hR8 hX8 hlen8 hab8 hg8 hsplit hlt hS7 hnew hX7 hLO7 hng hg7 hPO7 hS6 hR6 hPO hx6 hcur ebx hbL2
        go_upto_region 18 with fail
        generalize ((w10.setCell ⟨gL, k * 3, none⟩ (.int .i64 (W : Int))).setCell ⟨gL, k * 3 + 1, none⟩ (.int .i64 (H : Int))).setCell ⟨gL, k * 3 + 2, none⟩ (.slice (some ⟨g, 0, none⟩) (W * H * s) (W * H * s)) = w11 at H8 ⊢
        clear hrun c0 c1 c2 z0 z1 z2 u1 l0 l1 l2 m0 m1 m2
        obtain ⟨hset, hY8, hR8, hX8, hlen8, hab8⟩ := unhide H8
        clear H8
        obtain ⟨q0, q1, q2, q3, q4, q5⟩ := hY8.six
        obtain ⟨p0, p1, p2, p3, p4, p5⟩ := hR8.six
        obtain ⟨f0, f1, f2, f3, f4, f5⟩ := hR8.frees
        have hB9 := hR8.put6 (.int .i64 f) (.slice (some ⟨gL, 0, none⟩) D.length cap5) (.int .i64 I.ws) (.int .i64 I.wt) (.int .i64 I.mn) (.int .i64 I.mg)
        have hg9 := grown_put6 w11 (w.heap.size + 1 + 1) (.int .i64 f) (.slice (some ⟨gL, 0, none⟩) D.length cap5) (.int .i64 I.ws) (.int .i64 I.wt) (.int .i64 I.mn) (.int .i64 I.mg)
        have hL9 := (hset.grown hR8 ⟨by decide, by decide⟩ hg9).lower (b2 := w.heap.size) (by omega)
        have hX9 : Ext w _ := below_grown hX8 hg9 hX8.size (by omega)
        have H9 := hide (And.intro hB9 (And.intro hL9 (And.intro hX9 (And.intro hlen8 hab8))))
        clear hset hY8 hR8 hX8 hlen8 hab8 hB9 hg9 hL9 hX9
        go_wp2
        obtain ⟨hB9, hL9, hX9, hlen8, hab8⟩ := unhide H9
        obtain ⟨r0, r1, r2, r3, r4, r5⟩ := hB9.six
        refine bodyPost_ret (v := .tuple #[.agg #[.int .i64 f, .slice (some ⟨gL, 0, none⟩) D.length cap5, .int .i64 I.ws, .int .i64 I.wt, .int .i64 I.mn, .int .i64 I.mg], .int .i64 0]) (by simp [results, Try.results12, go_sem, r0, r1, r2, r3, r4, r5]) rfl ?_
        exact ⟨some ⟨gL, 0, none⟩, cap5, D8, by rw [hlen8], by rw [hlen8]; exact hL9, hab8, hX9⟩
end
end Go.Proofs.Ytepieneefjhbkaa
