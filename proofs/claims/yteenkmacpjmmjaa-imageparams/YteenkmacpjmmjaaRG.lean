/-
  Images: the document's Param.
-/
import Derived.Test.YteenkmacpjmmjaaJT
import Derived.Test.YteenkmacpjmmjaaRE
import Derived.Test.YteenkmacpjmmjaaRB
namespace Go.Proofs.Yteenkmacpjmmjaa
open Go.RowKit
set_option linter.unusedVariables false
set_option linter.unusedSimpArgs false


set_option maxRecDepth 10000 in
set_option maxHeartbeats 4000000 in
theorem refParam_any {w : World} {v : Value} {L : List Ent} {I : Img} (h : LR w v L) (hL : L.length ≤ 1000) (hA : I.L = absL L) (hbL : ∀ p ∈ L, p.2.2.2.length ≤ 140737488355328) (k n : Int) :
    Calls Try.prog 22 #[.agg #[.int .i64 I.f, v, .int .i64 I.ws, .int .i64 I.wt, .int .i64 I.mn, .int .i64 I.mg], .int .i64 k, .int .i64 n] w fun e w' => ∃ ao cap D, e = .returned (.tuple #[.agg #[.int .i64 (parI I k n).f, .slice ao D.length cap, .int .i64 (parI I k n).ws, .int .i64 (parI I k n).wt, .int .i64 (parI I k n).mn, .int .i64 (parI I k n).mg], .int .i64 (parE I k n)]) ∧ LO w' w.heap.size (.slice ao D.length cap) D ∧ absL D = (parI I k n).L ∧ Ext w w' := by
  obtain ⟨ao, cap, rfl, hao, hlc, hcm, _⟩ := h.shape
  have hcm2 : cap ≤ 9223372036854775807 := by unfold maxLen at hcm; omega
  have hX1 := ((Ext.refl w).alloc (.cells #[.int .i64 I.f, .slice ao L.length cap, .int .i64 I.ws, .int .i64 I.wt, .int .i64 I.mn, .int .i64 I.mg] 24)).alloc (.cells #[.int .i64 0, .slice none 0 0, .int .i64 0, .int .i64 0, .int .i64 0, .int .i64 0] 24)
  have hB1 := (Blk.new w #[.int .i64 I.f, .slice ao L.length cap, .int .i64 I.ws, .int .i64 I.wt, .int .i64 I.mn, .int .i64 I.mg] 24).alloc (.cells #[.int .i64 0, .slice none 0 0, .int .i64 0, .int .i64 0, .int .i64 0, .int .i64 0] 24)
  have hR1 : Blk ((w.alloc (.cells #[.int .i64 I.f, .slice ao L.length cap, .int .i64 I.ws, .int .i64 I.wt, .int .i64 I.mn, .int .i64 I.mg] 24)).alloc (.cells #[.int .i64 0, .slice none 0 0, .int .i64 0, .int .i64 0, .int .i64 0, .int .i64 0] 24)) (w.heap.size + 1) #[.int .i64 0, .slice none 0 0, .int .i64 0, .int .i64 0, .int .i64 0, .int .i64 0] 24 := Blk.at (by simp)
  have H1 := hide (And.intro hX1 (And.intro hB1 hR1))
  have HA := hide hA
  have HH := hide h
  have HBL := hide hbL
  clear h hA hao hcm hX1 hB1 hR1 hbL
  go_enter Try.func22, Try.ntmps22
  go_wp2_with fail
  generalize (w.alloc (.cells #[.int .i64 I.f, .slice ao L.length cap, .int .i64 I.ws, .int .i64 I.wt, .int .i64 I.mn, .int .i64 I.mg] 24)).alloc (.cells #[.int .i64 0, .slice none 0 0, .int .i64 0, .int .i64 0, .int .i64 0, .int .i64 0] 24) = w1 at H1 ⊢
  refine (refRight_any (I := I) ((unhide HH).ext (unhide H1).1) (unhide HA)).mono ?_
  rintro e w2 ⟨rfl, hx2⟩
  have H2 := hide (And.intro ((unhide H1).1.trans hx2) (And.intro ((unhide H1).2.1.ext hx2) ((unhide H1).2.2.ext hx2)))
  clear H1 hx2
  cases hok : okB (sizI I.f) I with
  | false =>
    have HO : Hid (parI I k n = zimg ∧ parE I k n = 180) := by
      refine ⟨?_, ?_⟩
      · unfold parI; rw [if_pos hok]
      · unfold parE; rw [if_pos hok]
    clear hok
    have hR9 := (unhide H2).2.2
    obtain ⟨p0, p1, p2, p3, p4, p5⟩ := hR9.six
    obtain ⟨f0, f1, f2, f3, f4, f5⟩ := hR9.frees
    have hB7 := hR9.put6 (.int .i64 0) (.slice none 0 0) (.int .i64 0) (.int .i64 0) (.int .i64 0) (.int .i64 0)
    have hg7 := grown_put6 w2 (w.heap.size + 1) (.int .i64 0) (.slice none 0 0) (.int .i64 0) (.int .i64 0) (.int .i64 0) (.int .i64 0)
    have hX7 : Ext w _ := below_grown (unhide H2).1 hg7 (unhide H2).1.size (by omega)
    have H7 := hide (And.intro hB7 hX7)
    clear hR9 hB7 hg7 hX7
    go_wp2
    obtain ⟨r0, r1, r2, r3, r4, r5⟩ := (unhide H7).1.six
    refine bodyPost_ret (v := .tuple #[.agg #[.int .i64 0, .slice none 0 0, .int .i64 0, .int .i64 0, .int .i64 0, .int .i64 0], .int .i64 180]) (by simp [results, Try.results22, go_sem, r0, r1, r2, r3, r4, r5]) rfl ?_
    rw [(unhide HO).1, (unhide HO).2]
    exact ⟨none, 0, [], rfl, LO.nil _ _, rfl, (unhide H7).2⟩
  | true =>
    go_wp2_with fail
    refine (refValues_any k n _).mono ?_
    rintro e w3 ⟨rfl, rfl⟩
    cases hv : valB k n with
    | false =>
      have HO : Hid (parI I k n = zimg ∧ parE I k n = 2) := by
        refine ⟨?_, ?_⟩
        · unfold parI; rw [if_neg (by rw [hok]; simp), if_pos hv]
        · unfold parE; rw [if_neg (by rw [hok]; simp), if_pos hv]
      clear hok
      have hR9 := (unhide H2).2.2
      obtain ⟨p0, p1, p2, p3, p4, p5⟩ := hR9.six
      obtain ⟨f0, f1, f2, f3, f4, f5⟩ := hR9.frees
      have hB7 := hR9.put6 (.int .i64 0) (.slice none 0 0) (.int .i64 0) (.int .i64 0) (.int .i64 0) (.int .i64 0)
      have hg7 := grown_put6 w3 (w.heap.size + 1) (.int .i64 0) (.slice none 0 0) (.int .i64 0) (.int .i64 0) (.int .i64 0) (.int .i64 0)
      have hX7 : Ext w _ := below_grown (unhide H2).1 hg7 (unhide H2).1.size (by omega)
      have H7 := hide (And.intro hB7 hX7)
      clear hR9 hB7 hg7 hX7
      go_wp2
      obtain ⟨r0, r1, r2, r3, r4, r5⟩ := (unhide H7).1.six
      refine bodyPost_ret (v := .tuple #[.agg #[.int .i64 0, .slice none 0 0, .int .i64 0, .int .i64 0, .int .i64 0, .int .i64 0], .int .i64 2]) (by simp [results, Try.results22, go_sem, r0, r1, r2, r3, r4, r5]) rfl ?_
      rw [(unhide HO).1, (unhide HO).2]
      exact ⟨none, 0, [], rfl, LO.nil _ _, rfl, (unhide H7).2⟩
    | true =>
      have HE : Hid (parE I k n = 0) := by
        show _ = _
        unfold parE
        rw [if_neg (by rw [hok]; simp), if_neg (by rw [hv]; simp)]
      have HP : Hid (parI I k n = if k = 1 then ⟨I.f, I.L, n, I.wt, I.mn, I.mg⟩ else if k = 2 then ⟨I.f, I.L, I.ws, n, I.mn, I.mg⟩ else if k = 3 then ⟨I.f, I.L, I.ws, I.wt, n, I.mg⟩ else ⟨I.f, I.L, I.ws, I.wt, I.mn, n⟩) := by
        show _ = _
        unfold parI
        rw [if_neg (by rw [hok]; simp), if_neg (by rw [hv]; simp)]
      have hk := val_k hv
      clear hok hv
      obtain ⟨q0, q1, q2, q3, q4, q5⟩ := (unhide H2).2.1.six
      have hlt2 := (unhide H2).2.2.lt
      rcases hk with rfl | hk
      · have HO : Hid (parI I 1 n = ⟨I.f, I.L, n, I.wt, I.mn, I.mg⟩) := by show _ = _; rw [unhide HP]; simp
        go_wp2_with fail
        refine (refCopy_any (I := I) ((unhide HH).ext (unhide H2).1) (by omega) (unhide HBL)).mono ?_
        rintro e w4 ⟨ao4, cap4, D, rfl, hlo4, hab4, hx4⟩
        have hB4 := (unhide H2).2.1.ext hx4
        have hR4 := (unhide H2).2.2.ext hx4
        have hX4 := (unhide H2).1.trans hx4
        clear q0 q1 q2 q3 q4 q5
        obtain ⟨q0, q1, q2, q3, q4, q5⟩ := hB4.six
        obtain ⟨f0, f1, f2, f3, f4, f5⟩ := hB4.frees
        have hB5 := hB4.put6 (.int .i64 I.f) (.slice ao4 D.length cap4) (.int .i64 I.ws) (.int .i64 I.wt) (.int .i64 I.mn) (.int .i64 I.mg)
        have hg5 := grown_put6 w4 w.heap.size (.int .i64 I.f) (.slice ao4 D.length cap4) (.int .i64 I.ws) (.int .i64 I.wt) (.int .i64 I.mn) (.int .i64 I.mg)
        have hR5 : Blk _ (w.heap.size + 1) #[.int .i64 0, .slice none 0 0, .int .i64 0, .int .i64 0, .int .i64 0, .int .i64 0] 24 := hR4.grown hg5 (by omega)
        have hl5 := hlo4.grown hB4 ⟨by decide, by decide⟩ hg5
        have hX5 : Ext w _ := below_grown hX4 hg5 hX4.size (Nat.le_refl _)
        have H5 := hide (And.intro hB5 (And.intro hR5 (And.intro hl5 hX5)))
        clear hB4 hR4 hX4 hB5 hg5 hR5 hl5 hX5 hlo4 hx4
        go_upto_region 6 with fail
        generalize (((((w4.setCell ⟨w.heap.size, 0, none⟩ (.int .i64 I.f)).setCell ⟨w.heap.size, 1, none⟩ (.slice ao4 D.length cap4)).setCell ⟨w.heap.size, 2, none⟩ (.int .i64 I.ws)).setCell ⟨w.heap.size, 3, none⟩ (.int .i64 I.wt)).setCell ⟨w.heap.size, 4, none⟩ (.int .i64 I.mn)).setCell ⟨w.heap.size, 5, none⟩ (.int .i64 I.mg) = w5 at H5 ⊢
        clear q0 q1 q2 q3 q4 q5 f0 f1 f2 f3 f4 f5
        obtain ⟨hB5, hR5, hl5, hX5⟩ := unhide H5
        have hx2s := (unhide H2).1.size
        obtain ⟨q0, q1, q2, q3, q4, q5⟩ := hB5.six
        have fz := hB5.free 2
        have hg6 := grownBy_set w5 w.heap.size 2 (.int .i64 n)
        have hB6 : Blk (w5.setCell ⟨w.heap.size, 2, none⟩ (.int .i64 n)) w.heap.size #[.int .i64 I.f, .slice ao4 D.length cap4, .int .i64 n, .int .i64 I.wt, .int .i64 I.mn, .int .i64 I.mg] 24 := by
          have := hB5.set 2 (.int .i64 n)
          simpa using this
        have hR6 := hR5.other (r := w.heap.size) 2 (.int .i64 n) (by omega)
        have hl6 := hl5.grown hB5 ⟨by decide, by decide⟩ hg6
        have hX6 : Ext w (w5.setCell ⟨w.heap.size, 2, none⟩ (.int .i64 n)) := below_grown hX5 hg6 hX5.size (by omega)
        have H6 := hide (And.intro hB6 (And.intro hR6 (And.intro hl6 hX6)))
        clear hB5 hR5 hl5 hX5 hg6 hB6 hR6 hl6 hX6 H5
        go_upto_region 14 with fail
        generalize w5.setCell ⟨w.heap.size, 2, none⟩ (.int .i64 n) = w6 at H6 ⊢
        obtain ⟨hB6, hR6, hl6, hX6⟩ := unhide H6
        clear q0 q1 q2 q3 q4 q5 fz
        obtain ⟨q0, q1, q2, q3, q4, q5⟩ := hB6.six
        obtain ⟨p0, p1, p2, p3, p4, p5⟩ := hR6.six
        obtain ⟨f0, f1, f2, f3, f4, f5⟩ := hR6.frees
        have hB7 := hR6.put6 (.int .i64 I.f) (.slice ao4 D.length cap4) (.int .i64 n) (.int .i64 I.wt) (.int .i64 I.mn) (.int .i64 I.mg)
        have hg7 := grown_put6 w6 (w.heap.size + 1) (.int .i64 I.f) (.slice ao4 D.length cap4) (.int .i64 n) (.int .i64 I.wt) (.int .i64 I.mn) (.int .i64 I.mg)
        have hL7 := (hl6.grown hR6 ⟨by decide, by decide⟩ hg7).lower (b2 := w.heap.size) (by omega)
        have hX7 : Ext w _ := below_grown hX6 hg7 hX6.size (by omega)
        have H7 := hide (And.intro hB7 (And.intro hL7 hX7))
        clear hB6 hR6 hl6 hX6 H6 hB7 hg7 hL7 hX7
        have HAB := hide hab4
        clear hab4
        go_wp2
        obtain ⟨hB7, hL7, hX7⟩ := unhide H7
        obtain ⟨r0, r1, r2, r3, r4, r5⟩ := hB7.six
        refine bodyPost_ret (v := .tuple #[.agg #[.int .i64 I.f, .slice ao4 D.length cap4, .int .i64 n, .int .i64 I.wt, .int .i64 I.mn, .int .i64 I.mg], .int .i64 0]) (by simp [results, Try.results22, go_sem, r0, r1, r2, r3, r4, r5]) rfl ?_
        rw [unhide HO, unhide HE]
        exact ⟨ao4, cap4, D, rfl, hL7, (unhide HAB).trans (unhide HA).symm, hX7⟩
      rcases hk with rfl | hk
      · have HO : Hid (parI I 2 n = ⟨I.f, I.L, I.ws, n, I.mn, I.mg⟩) := by show _ = _; rw [unhide HP]; simp
        go_wp2_with fail
        refine (refCopy_any (I := I) ((unhide HH).ext (unhide H2).1) (by omega) (unhide HBL)).mono ?_
        rintro e w4 ⟨ao4, cap4, D, rfl, hlo4, hab4, hx4⟩
        have hB4 := (unhide H2).2.1.ext hx4
        have hR4 := (unhide H2).2.2.ext hx4
        have hX4 := (unhide H2).1.trans hx4
        clear q0 q1 q2 q3 q4 q5
        obtain ⟨q0, q1, q2, q3, q4, q5⟩ := hB4.six
        obtain ⟨f0, f1, f2, f3, f4, f5⟩ := hB4.frees
        have hB5 := hB4.put6 (.int .i64 I.f) (.slice ao4 D.length cap4) (.int .i64 I.ws) (.int .i64 I.wt) (.int .i64 I.mn) (.int .i64 I.mg)
        have hg5 := grown_put6 w4 w.heap.size (.int .i64 I.f) (.slice ao4 D.length cap4) (.int .i64 I.ws) (.int .i64 I.wt) (.int .i64 I.mn) (.int .i64 I.mg)
        have hR5 : Blk _ (w.heap.size + 1) #[.int .i64 0, .slice none 0 0, .int .i64 0, .int .i64 0, .int .i64 0, .int .i64 0] 24 := hR4.grown hg5 (by omega)
        have hl5 := hlo4.grown hB4 ⟨by decide, by decide⟩ hg5
        have hX5 : Ext w _ := below_grown hX4 hg5 hX4.size (Nat.le_refl _)
        have H5 := hide (And.intro hB5 (And.intro hR5 (And.intro hl5 hX5)))
        clear hB4 hR4 hX4 hB5 hg5 hR5 hl5 hX5 hlo4 hx4
        go_upto_region 6 with fail
        generalize (((((w4.setCell ⟨w.heap.size, 0, none⟩ (.int .i64 I.f)).setCell ⟨w.heap.size, 1, none⟩ (.slice ao4 D.length cap4)).setCell ⟨w.heap.size, 2, none⟩ (.int .i64 I.ws)).setCell ⟨w.heap.size, 3, none⟩ (.int .i64 I.wt)).setCell ⟨w.heap.size, 4, none⟩ (.int .i64 I.mn)).setCell ⟨w.heap.size, 5, none⟩ (.int .i64 I.mg) = w5 at H5 ⊢
        clear q0 q1 q2 q3 q4 q5 f0 f1 f2 f3 f4 f5
        obtain ⟨hB5, hR5, hl5, hX5⟩ := unhide H5
        have hx2s := (unhide H2).1.size
        obtain ⟨q0, q1, q2, q3, q4, q5⟩ := hB5.six
        have fz := hB5.free 3
        have hg6 := grownBy_set w5 w.heap.size 3 (.int .i64 n)
        have hB6 : Blk (w5.setCell ⟨w.heap.size, 3, none⟩ (.int .i64 n)) w.heap.size #[.int .i64 I.f, .slice ao4 D.length cap4, .int .i64 I.ws, .int .i64 n, .int .i64 I.mn, .int .i64 I.mg] 24 := by
          have := hB5.set 3 (.int .i64 n)
          simpa using this
        have hR6 := hR5.other (r := w.heap.size) 3 (.int .i64 n) (by omega)
        have hl6 := hl5.grown hB5 ⟨by decide, by decide⟩ hg6
        have hX6 : Ext w (w5.setCell ⟨w.heap.size, 3, none⟩ (.int .i64 n)) := below_grown hX5 hg6 hX5.size (by omega)
        have H6 := hide (And.intro hB6 (And.intro hR6 (And.intro hl6 hX6)))
        clear hB5 hR5 hl5 hX5 hg6 hB6 hR6 hl6 hX6 H5
        go_upto_region 14 with fail
        generalize w5.setCell ⟨w.heap.size, 3, none⟩ (.int .i64 n) = w6 at H6 ⊢
        obtain ⟨hB6, hR6, hl6, hX6⟩ := unhide H6
        clear q0 q1 q2 q3 q4 q5 fz
        obtain ⟨q0, q1, q2, q3, q4, q5⟩ := hB6.six
        obtain ⟨p0, p1, p2, p3, p4, p5⟩ := hR6.six
        obtain ⟨f0, f1, f2, f3, f4, f5⟩ := hR6.frees
        have hB7 := hR6.put6 (.int .i64 I.f) (.slice ao4 D.length cap4) (.int .i64 I.ws) (.int .i64 n) (.int .i64 I.mn) (.int .i64 I.mg)
        have hg7 := grown_put6 w6 (w.heap.size + 1) (.int .i64 I.f) (.slice ao4 D.length cap4) (.int .i64 I.ws) (.int .i64 n) (.int .i64 I.mn) (.int .i64 I.mg)
        have hL7 := (hl6.grown hR6 ⟨by decide, by decide⟩ hg7).lower (b2 := w.heap.size) (by omega)
        have hX7 : Ext w _ := below_grown hX6 hg7 hX6.size (by omega)
        have H7 := hide (And.intro hB7 (And.intro hL7 hX7))
        clear hB6 hR6 hl6 hX6 H6 hB7 hg7 hL7 hX7
        have HAB := hide hab4
        clear hab4
        go_wp2
        obtain ⟨hB7, hL7, hX7⟩ := unhide H7
        obtain ⟨r0, r1, r2, r3, r4, r5⟩ := hB7.six
        refine bodyPost_ret (v := .tuple #[.agg #[.int .i64 I.f, .slice ao4 D.length cap4, .int .i64 I.ws, .int .i64 n, .int .i64 I.mn, .int .i64 I.mg], .int .i64 0]) (by simp [results, Try.results22, go_sem, r0, r1, r2, r3, r4, r5]) rfl ?_
        rw [unhide HO, unhide HE]
        exact ⟨ao4, cap4, D, rfl, hL7, (unhide HAB).trans (unhide HA).symm, hX7⟩
      rcases hk with rfl | hk
      · have HO : Hid (parI I 3 n = ⟨I.f, I.L, I.ws, I.wt, n, I.mg⟩) := by show _ = _; rw [unhide HP]; simp
        go_wp2_with fail
        refine (refCopy_any (I := I) ((unhide HH).ext (unhide H2).1) (by omega) (unhide HBL)).mono ?_
        rintro e w4 ⟨ao4, cap4, D, rfl, hlo4, hab4, hx4⟩
        have hB4 := (unhide H2).2.1.ext hx4
        have hR4 := (unhide H2).2.2.ext hx4
        have hX4 := (unhide H2).1.trans hx4
        clear q0 q1 q2 q3 q4 q5
        obtain ⟨q0, q1, q2, q3, q4, q5⟩ := hB4.six
        obtain ⟨f0, f1, f2, f3, f4, f5⟩ := hB4.frees
        have hB5 := hB4.put6 (.int .i64 I.f) (.slice ao4 D.length cap4) (.int .i64 I.ws) (.int .i64 I.wt) (.int .i64 I.mn) (.int .i64 I.mg)
        have hg5 := grown_put6 w4 w.heap.size (.int .i64 I.f) (.slice ao4 D.length cap4) (.int .i64 I.ws) (.int .i64 I.wt) (.int .i64 I.mn) (.int .i64 I.mg)
        have hR5 : Blk _ (w.heap.size + 1) #[.int .i64 0, .slice none 0 0, .int .i64 0, .int .i64 0, .int .i64 0, .int .i64 0] 24 := hR4.grown hg5 (by omega)
        have hl5 := hlo4.grown hB4 ⟨by decide, by decide⟩ hg5
        have hX5 : Ext w _ := below_grown hX4 hg5 hX4.size (Nat.le_refl _)
        have H5 := hide (And.intro hB5 (And.intro hR5 (And.intro hl5 hX5)))
        clear hB4 hR4 hX4 hB5 hg5 hR5 hl5 hX5 hlo4 hx4
        go_upto_region 6 with fail
        generalize (((((w4.setCell ⟨w.heap.size, 0, none⟩ (.int .i64 I.f)).setCell ⟨w.heap.size, 1, none⟩ (.slice ao4 D.length cap4)).setCell ⟨w.heap.size, 2, none⟩ (.int .i64 I.ws)).setCell ⟨w.heap.size, 3, none⟩ (.int .i64 I.wt)).setCell ⟨w.heap.size, 4, none⟩ (.int .i64 I.mn)).setCell ⟨w.heap.size, 5, none⟩ (.int .i64 I.mg) = w5 at H5 ⊢
        clear q0 q1 q2 q3 q4 q5 f0 f1 f2 f3 f4 f5
        obtain ⟨hB5, hR5, hl5, hX5⟩ := unhide H5
        have hx2s := (unhide H2).1.size
        obtain ⟨q0, q1, q2, q3, q4, q5⟩ := hB5.six
        have fz := hB5.free 4
        have hg6 := grownBy_set w5 w.heap.size 4 (.int .i64 n)
        have hB6 : Blk (w5.setCell ⟨w.heap.size, 4, none⟩ (.int .i64 n)) w.heap.size #[.int .i64 I.f, .slice ao4 D.length cap4, .int .i64 I.ws, .int .i64 I.wt, .int .i64 n, .int .i64 I.mg] 24 := by
          have := hB5.set 4 (.int .i64 n)
          simpa using this
        have hR6 := hR5.other (r := w.heap.size) 4 (.int .i64 n) (by omega)
        have hl6 := hl5.grown hB5 ⟨by decide, by decide⟩ hg6
        have hX6 : Ext w (w5.setCell ⟨w.heap.size, 4, none⟩ (.int .i64 n)) := below_grown hX5 hg6 hX5.size (by omega)
        have H6 := hide (And.intro hB6 (And.intro hR6 (And.intro hl6 hX6)))
        clear hB5 hR5 hl5 hX5 hg6 hB6 hR6 hl6 hX6 H5
        go_upto_region 14 with fail
        generalize w5.setCell ⟨w.heap.size, 4, none⟩ (.int .i64 n) = w6 at H6 ⊢
        obtain ⟨hB6, hR6, hl6, hX6⟩ := unhide H6
        clear q0 q1 q2 q3 q4 q5 fz
        obtain ⟨q0, q1, q2, q3, q4, q5⟩ := hB6.six
        obtain ⟨p0, p1, p2, p3, p4, p5⟩ := hR6.six
        obtain ⟨f0, f1, f2, f3, f4, f5⟩ := hR6.frees
        have hB7 := hR6.put6 (.int .i64 I.f) (.slice ao4 D.length cap4) (.int .i64 I.ws) (.int .i64 I.wt) (.int .i64 n) (.int .i64 I.mg)
        have hg7 := grown_put6 w6 (w.heap.size + 1) (.int .i64 I.f) (.slice ao4 D.length cap4) (.int .i64 I.ws) (.int .i64 I.wt) (.int .i64 n) (.int .i64 I.mg)
        have hL7 := (hl6.grown hR6 ⟨by decide, by decide⟩ hg7).lower (b2 := w.heap.size) (by omega)
        have hX7 : Ext w _ := below_grown hX6 hg7 hX6.size (by omega)
        have H7 := hide (And.intro hB7 (And.intro hL7 hX7))
        clear hB6 hR6 hl6 hX6 H6 hB7 hg7 hL7 hX7
        have HAB := hide hab4
        clear hab4
        go_wp2
        obtain ⟨hB7, hL7, hX7⟩ := unhide H7
        obtain ⟨r0, r1, r2, r3, r4, r5⟩ := hB7.six
        refine bodyPost_ret (v := .tuple #[.agg #[.int .i64 I.f, .slice ao4 D.length cap4, .int .i64 I.ws, .int .i64 I.wt, .int .i64 n, .int .i64 I.mg], .int .i64 0]) (by simp [results, Try.results22, go_sem, r0, r1, r2, r3, r4, r5]) rfl ?_
        rw [unhide HO, unhide HE]
        exact ⟨ao4, cap4, D, rfl, hL7, (unhide HAB).trans (unhide HA).symm, hX7⟩
      · subst hk
        have HO : Hid (parI I 4 n = ⟨I.f, I.L, I.ws, I.wt, I.mn, n⟩) := by show _ = _; rw [unhide HP]; simp
        go_wp2_with fail
        refine (refCopy_any (I := I) ((unhide HH).ext (unhide H2).1) (by omega) (unhide HBL)).mono ?_
        rintro e w4 ⟨ao4, cap4, D, rfl, hlo4, hab4, hx4⟩
        have hB4 := (unhide H2).2.1.ext hx4
        have hR4 := (unhide H2).2.2.ext hx4
        have hX4 := (unhide H2).1.trans hx4
        clear q0 q1 q2 q3 q4 q5
        obtain ⟨q0, q1, q2, q3, q4, q5⟩ := hB4.six
        obtain ⟨f0, f1, f2, f3, f4, f5⟩ := hB4.frees
        have hB5 := hB4.put6 (.int .i64 I.f) (.slice ao4 D.length cap4) (.int .i64 I.ws) (.int .i64 I.wt) (.int .i64 I.mn) (.int .i64 I.mg)
        have hg5 := grown_put6 w4 w.heap.size (.int .i64 I.f) (.slice ao4 D.length cap4) (.int .i64 I.ws) (.int .i64 I.wt) (.int .i64 I.mn) (.int .i64 I.mg)
        have hR5 : Blk _ (w.heap.size + 1) #[.int .i64 0, .slice none 0 0, .int .i64 0, .int .i64 0, .int .i64 0, .int .i64 0] 24 := hR4.grown hg5 (by omega)
        have hl5 := hlo4.grown hB4 ⟨by decide, by decide⟩ hg5
        have hX5 : Ext w _ := below_grown hX4 hg5 hX4.size (Nat.le_refl _)
        have H5 := hide (And.intro hB5 (And.intro hR5 (And.intro hl5 hX5)))
        clear hB4 hR4 hX4 hB5 hg5 hR5 hl5 hX5 hlo4 hx4
        go_upto_region 6 with fail
        generalize (((((w4.setCell ⟨w.heap.size, 0, none⟩ (.int .i64 I.f)).setCell ⟨w.heap.size, 1, none⟩ (.slice ao4 D.length cap4)).setCell ⟨w.heap.size, 2, none⟩ (.int .i64 I.ws)).setCell ⟨w.heap.size, 3, none⟩ (.int .i64 I.wt)).setCell ⟨w.heap.size, 4, none⟩ (.int .i64 I.mn)).setCell ⟨w.heap.size, 5, none⟩ (.int .i64 I.mg) = w5 at H5 ⊢
        clear q0 q1 q2 q3 q4 q5 f0 f1 f2 f3 f4 f5
        obtain ⟨hB5, hR5, hl5, hX5⟩ := unhide H5
        have hx2s := (unhide H2).1.size
        obtain ⟨q0, q1, q2, q3, q4, q5⟩ := hB5.six
        have fz := hB5.free 5
        have hg6 := grownBy_set w5 w.heap.size 5 (.int .i64 n)
        have hB6 : Blk (w5.setCell ⟨w.heap.size, 5, none⟩ (.int .i64 n)) w.heap.size #[.int .i64 I.f, .slice ao4 D.length cap4, .int .i64 I.ws, .int .i64 I.wt, .int .i64 I.mn, .int .i64 n] 24 := by
          have := hB5.set 5 (.int .i64 n)
          simpa using this
        have hR6 := hR5.other (r := w.heap.size) 5 (.int .i64 n) (by omega)
        have hl6 := hl5.grown hB5 ⟨by decide, by decide⟩ hg6
        have hX6 : Ext w (w5.setCell ⟨w.heap.size, 5, none⟩ (.int .i64 n)) := below_grown hX5 hg6 hX5.size (by omega)
        have H6 := hide (And.intro hB6 (And.intro hR6 (And.intro hl6 hX6)))
        clear hB5 hR5 hl5 hX5 hg6 hB6 hR6 hl6 hX6 H5
        go_upto_region 14 with fail
        generalize w5.setCell ⟨w.heap.size, 5, none⟩ (.int .i64 n) = w6 at H6 ⊢
        obtain ⟨hB6, hR6, hl6, hX6⟩ := unhide H6
        clear q0 q1 q2 q3 q4 q5 fz
        obtain ⟨q0, q1, q2, q3, q4, q5⟩ := hB6.six
        obtain ⟨p0, p1, p2, p3, p4, p5⟩ := hR6.six
        obtain ⟨f0, f1, f2, f3, f4, f5⟩ := hR6.frees
        have hB7 := hR6.put6 (.int .i64 I.f) (.slice ao4 D.length cap4) (.int .i64 I.ws) (.int .i64 I.wt) (.int .i64 I.mn) (.int .i64 n)
        have hg7 := grown_put6 w6 (w.heap.size + 1) (.int .i64 I.f) (.slice ao4 D.length cap4) (.int .i64 I.ws) (.int .i64 I.wt) (.int .i64 I.mn) (.int .i64 n)
        have hL7 := (hl6.grown hR6 ⟨by decide, by decide⟩ hg7).lower (b2 := w.heap.size) (by omega)
        have hX7 : Ext w _ := below_grown hX6 hg7 hX6.size (by omega)
        have H7 := hide (And.intro hB7 (And.intro hL7 hX7))
        clear hB6 hR6 hl6 hX6 H6 hB7 hg7 hL7 hX7
        have HAB := hide hab4
        clear hab4
        go_wp2
        obtain ⟨hB7, hL7, hX7⟩ := unhide H7
        obtain ⟨r0, r1, r2, r3, r4, r5⟩ := hB7.six
        refine bodyPost_ret (v := .tuple #[.agg #[.int .i64 I.f, .slice ao4 D.length cap4, .int .i64 I.ws, .int .i64 I.wt, .int .i64 I.mn, .int .i64 n], .int .i64 0]) (by simp [results, Try.results22, go_sem, r0, r1, r2, r3, r4, r5]) rfl ?_
        rw [unhide HO, unhide HE]
        exact ⟨ao4, cap4, D, rfl, hL7, (unhide HAB).trans (unhide HA).symm, hX7⟩
end Go.Proofs.Yteenkmacpjmmjaa
