/-
  Corners: the walks of Cut, Window and Point. What the dump lacks is left out.
-/
import Derived.Test.YtbhdloanlagddaaHAh
import Derived.Test.YtbhdloanlagddaaHAe
namespace Go.Proofs.Ytbhdloanlagddaa
open Go.RowKit
set_option linter.unusedVariables false
set_option linter.unusedSimpArgs false

/-- May this be cut? -/
def cutOk (L : List Vt) (n : Int) : Bool := decide (0 ≤ n) && (decide (n ≤ 6) && (decide (L.length ≤ 16) && clA L))
/-- What Cut answers. -/
def CcQ (w : World) (L : List Vt) (n : Int) (e : Ending) (w' : World) : Prop :=
  if cutOk L n = true then ∃ v' R', e = .returned (.tuple #[v', .int .i64 0]) ∧ R'.map Prod.fst = clC L n ∧ VtO w' w.heap.size v' R' ∧ Ext w w' else e = .returned (.tuple #[.slice none 0 0, .int .i64 2]) ∧ Ext w w'
theorem clA_len {L : List Vt} (h : clA L = true) : ∀ x ∈ L, x.vs.length = (L.getD 0 zVt).vs.length ∧ x.vs.length ≤ 4 := fun x hx => by
  have := List.all_eq_true.1 h x hx
  simpa using this
theorem VQ.slc {w : World} {u : Value} {vs : List (Nat → Int)} (h : VQ w u vs) : ∃ ao cap, u = .slice ao vs.length cap := by
  obtain ⟨ao, cap, rfl, _⟩ := h
  exact ⟨ao, cap, rfl⟩

set_option maxRecDepth 10000 in
set_option maxHeartbeats 4000000 in
theorem cutC_any (v : Value) (R : List Vx) (n : Int) (w : World) (hr : VtR w v R) (h32 : ∀ x ∈ R, Vt32 x.1) :
    Calls Try.prog 19 #[v, .int .i64 n] w (CcQ w (R.map Prod.fst) n) := by
  obtain ⟨ao, cap, rfl, h1, h2, h3, _⟩ := id hr.row
  have HR := hide hr
  have HI := hide h32
  clear h1 h2 h3 hr h32
  by_cases a1 : 0 ≤ n
  · have d1 : decide (n < 0) = false := by simp; omega
    by_cases a2 : n ≤ 6
    · have d2 : decide (7 ≤ n) = false := by simp; omega
      by_cases a3 : R.length ≤ 16
      · have d3 : decide ((16 : Int) < (R.length : Int)) = false := by simp; omega
        have HAL := hide (fun wx (hx : Ext w wx) => alike_any (.slice ao R.length cap) R wx ((unhide HR).row.ext hx) (fun x hx2 => VQ.slc ((unhide HR).vars x hx2)) (by omega))
        cases a4 : clA (R.map Prod.fst) with
        | true =>
          have HC := hide (show cutOk (R.map Prod.fst) n = true by unfold cutOk; simp [a1, a2, a4]; omega)
          have HLN := hide (clA_len a4)
          have HCR := hide (fun wx (hx : Ext w wx) => cutRow_any (.slice ao R.length cap) R n ((R.map Prod.fst).getD 0 zVt).vs.length wx ((unhide HR).ext hx) (fun x hx2 => ((unhide HLN) x.1 (List.mem_map_of_mem hx2)).1) (by
            by_cases h0 : 0 < R.length
            · have := ((unhide HLN) _ (List.mem_map_of_mem (List.getElem_mem h0))).2
              have e := ((unhide HLN) _ (List.mem_map_of_mem (List.getElem_mem h0))).1
              omega
            · obtain rfl : R = [] := List.eq_nil_of_length_eq_zero (by omega)
              simp [zVt]) (unhide HI) (by omega))
          rw [a4] at HAL
          clear a1 a2 a3 a4
          go_enter Try.func19, Try.ntmps19
          go_wp2_with (first
            | (go_at_call 30; refine (unhide HAL _ (Ext.refl _)).mono ?_; rintro e w1 ⟨rfl, hx1⟩; have X1 := hide hx1; clear hx1)
            | (go_at_call 31; refine (unhide HCR _ (unhide X1)).mono ?_; rintro e w2 ⟨v2, R2, rfl, hm2, hO2, hx2⟩; have H2 := hide (And.intro hm2 (And.intro hO2 hx2)); clear hm2 hO2 hx2))
          refine bodyPost_ret (v := .tuple #[v2, .int .i64 0]) (by simp [results, Try.results19, go_sem]) rfl ?_
          unfold CcQ
          rw [if_pos (unhide HC)]
          exact ⟨v2, R2, rfl, (unhide H2).1, ⟨GO.lower (unhide H2).2.1.own (unhide X1).size, (unhide H2).2.1.vars⟩, (unhide X1).trans (unhide H2).2.2⟩
        | false =>
          have HC := hide (show ¬ cutOk (R.map Prod.fst) n = true by unfold cutOk; simp [a4])
          rw [a4] at HAL
          clear a1 a2 a3 a4
          go_enter Try.func19, Try.ntmps19
          go_wp2_with (go_at_call 30; refine (unhide HAL _ (Ext.refl _)).mono ?_; rintro e w1 ⟨rfl, hx1⟩; have X1 := hide hx1; clear hx1)
          refine bodyPost_ret (v := .tuple #[.slice none 0 0, .int .i64 2]) (by simp [results, Try.results19, go_sem]) rfl ?_
          unfold CcQ
          rw [if_neg (unhide HC)]
          exact ⟨rfl, unhide X1⟩
      · have d3 : decide ((16 : Int) < (R.length : Int)) = true := by simp; omega
        have HC := hide (show ¬ cutOk (R.map Prod.fst) n = true by unfold cutOk; simp; omega)
        clear a1 a2 a3
        go_enter Try.func19, Try.ntmps19
        go_wp2
        refine bodyPost_ret (v := .tuple #[.slice none 0 0, .int .i64 2]) (by simp [results, Try.results19, go_sem]) rfl ?_
        unfold CcQ
        rw [if_neg (unhide HC)]
        exact ⟨rfl, Ext.refl _⟩
    · have d2 : decide (7 ≤ n) = true := by simp; omega
      have HC := hide (show ¬ cutOk (R.map Prod.fst) n = true by unfold cutOk; simp; omega)
      clear a1 a2
      go_enter Try.func19, Try.ntmps19
      go_wp2
      refine bodyPost_ret (v := .tuple #[.slice none 0 0, .int .i64 2]) (by simp [results, Try.results19, go_sem]) rfl ?_
      unfold CcQ
      rw [if_neg (unhide HC)]
      exact ⟨rfl, Ext.refl _⟩
  · have d1 : decide (n < 0) = true := by simp; omega
    have HC := hide (show ¬ cutOk (R.map Prod.fst) n = true by unfold cutOk; simp; omega)
    clear a1
    go_enter Try.func19, Try.ntmps19
    go_wp2
    refine bodyPost_ret (v := .tuple #[.slice none 0 0, .int .i64 2]) (by simp [results, Try.results19, go_sem]) rfl ?_
    unfold CcQ
    rw [if_neg (unhide HC)]
    exact ⟨rfl, Ext.refl _⟩

/-- May this corner be laid? -/
def winOk (v : Vw) (x : Vt) : Bool := vwOk v && (clI x.p 0 && decide (x.vs.length ≤ 4))
/-- What Window answers. -/
def WdQ (w : World) (v : Vw) (x : Vt) (e : Ending) (w' : World) : Prop :=
  if winOk v x = true then ∃ u', e = .returned (.tuple #[.agg #[.int .i64 (Wn.x (layW v x)), .int .i64 (Wn.y (layW v x)), .int .i32 (Wn.z (layW v x)), .int .i32 (Wn.w (layW v x)), .int .i32 (Wn.s (layW v x)), u'], .int .i64 0]) ∧ ClQ w x.vs u' w' else e = .returned (.tuple #[.agg #[.int .i64 0, .int .i64 0, .int .i32 0, .int .i32 0, .int .i32 0, .slice none 0 0], .int .i64 2]) ∧ Ext w w'
theorem alike_one (x : Vt) (ap : Option Addr) (cp m : Nat) (g : Nat) (w : World) (hB : Blk w g #[.int .i32 (Vt.p x 0), .int .i32 (Vt.p x 1), .int .i32 (Vt.p x 2), .int .i32 (Vt.p x 3), .int .i32 (Vt.s x), .slice ap m cp] 29) (hm : x.vs.length = m) :
    Calls Try.prog 30 #[.slice (some ⟨g, 0, none⟩) 1 1] w fun e w' => e = .returned (.bool (decide (m ≤ 4))) ∧ Ext w w' := by
  have hS : SR vxC 6 w (.slice (some ⟨g, 0, none⟩) 1 1) [(x, .slice ap m cp)] := SR.ofBlk (R := [(x, .slice ap m cp)]) vxC_len hB (by unfold maxLen; simp)
  refine (alike_any _ _ w hS (fun y hy => ?_) (by simp)).mono ?_
  · rw [List.mem_singleton] at hy
    subst hy
    exact ⟨ap, cp, by rw [hm]⟩
  · rintro e w' ⟨rfl, hx⟩
    exact ⟨by simp [clA, hm], hx⟩

set_option maxRecDepth 10000 in
set_option maxHeartbeats 4000000 in
theorem windowC_any (v : Vw) (x : Vt) (u : Value) (w : World) (h : VQ w u x.vs) (hI : Vt32 x) :
    Calls Try.prog 24 #[.agg #[.int .i64 (Vw.X v), .int .i64 (Vw.Y v), .int .i64 (Vw.W v), .int .i64 (Vw.H v), .int .i32 (Vw.Nr v), .int .i32 (Vw.Fr v)], .agg #[.int .i32 (Vt.p x 0), .int .i32 (Vt.p x 1), .int .i32 (Vt.p x 2), .int .i32 (Vt.p x 3), .int .i32 (Vt.s x), u]] w (WdQ w v x) := by
  obtain ⟨ao, cap, rfl, _⟩ := id h
  have hV : Blk (((w.alloc (.cells #[.int .i64 (Vw.X v), .int .i64 (Vw.Y v), .int .i64 (Vw.W v), .int .i64 (Vw.H v), .int .i32 (Vw.Nr v), .int .i32 (Vw.Fr v)] 24)).alloc (.cells #[.int .i32 (Vt.p x 0), .int .i32 (Vt.p x 1), .int .i32 (Vt.p x 2), .int .i32 (Vt.p x 3), .int .i32 (Vt.s x), .slice ao x.vs.length cap] 29)).alloc (.cells #[.int .i64 0, .int .i64 0, .int .i32 0, .int .i32 0, .int .i32 0, .slice none 0 0] 44)) w.heap.size #[.int .i64 (Vw.X v), .int .i64 (Vw.Y v), .int .i64 (Vw.W v), .int .i64 (Vw.H v), .int .i32 (Vw.Nr v), .int .i32 (Vw.Fr v)] 24 := ((Blk.new _ _ _).alloc _).alloc _
  have hP : Blk (((w.alloc (.cells #[.int .i64 (Vw.X v), .int .i64 (Vw.Y v), .int .i64 (Vw.W v), .int .i64 (Vw.H v), .int .i32 (Vw.Nr v), .int .i32 (Vw.Fr v)] 24)).alloc (.cells #[.int .i32 (Vt.p x 0), .int .i32 (Vt.p x 1), .int .i32 (Vt.p x 2), .int .i32 (Vt.p x 3), .int .i32 (Vt.s x), .slice ao x.vs.length cap] 29)).alloc (.cells #[.int .i64 0, .int .i64 0, .int .i32 0, .int .i32 0, .int .i32 0, .slice none 0 0] 44)) (w.heap.size + 1) #[.int .i32 (Vt.p x 0), .int .i32 (Vt.p x 1), .int .i32 (Vt.p x 2), .int .i32 (Vt.p x 3), .int .i32 (Vt.s x), .slice ao x.vs.length cap] 29 := (Blk.at (by simp)).alloc _
  have hZ : Blk (((w.alloc (.cells #[.int .i64 (Vw.X v), .int .i64 (Vw.Y v), .int .i64 (Vw.W v), .int .i64 (Vw.H v), .int .i32 (Vw.Nr v), .int .i32 (Vw.Fr v)] 24)).alloc (.cells #[.int .i32 (Vt.p x 0), .int .i32 (Vt.p x 1), .int .i32 (Vt.p x 2), .int .i32 (Vt.p x 3), .int .i32 (Vt.s x), .slice ao x.vs.length cap] 29)).alloc (.cells #[.int .i64 0, .int .i64 0, .int .i32 0, .int .i32 0, .int .i32 0, .slice none 0 0] 44)) (w.heap.size + 1 + 1) #[.int .i64 0, .int .i64 0, .int .i32 0, .int .i32 0, .int .i32 0, .slice none 0 0] 44 := Blk.at (by simp)
  have hX : Ext w (((w.alloc (.cells #[.int .i64 (Vw.X v), .int .i64 (Vw.Y v), .int .i64 (Vw.W v), .int .i64 (Vw.H v), .int .i32 (Vw.Nr v), .int .i32 (Vw.Fr v)] 24)).alloc (.cells #[.int .i32 (Vt.p x 0), .int .i32 (Vt.p x 1), .int .i32 (Vt.p x 2), .int .i32 (Vt.p x 3), .int .i32 (Vt.s x), .slice ao x.vs.length cap] 29)).alloc (.cells #[.int .i64 0, .int .i64 0, .int .i32 0, .int .i32 0, .int .i32 0, .slice none 0 0] 44)) := (((Ext.refl w).alloc _).alloc _).alloc _
  have v0 := hV.six
  obtain ⟨g0, g1, g2, g3, g4, g5⟩ := v0
  obtain ⟨wc, hwc⟩ : ∃ wc, wc = (((w.alloc (.cells #[.int .i64 (Vw.X v), .int .i64 (Vw.Y v), .int .i64 (Vw.W v), .int .i64 (Vw.H v), .int .i32 (Vw.Nr v), .int .i32 (Vw.Fr v)] 24)).alloc (.cells #[.int .i32 (Vt.p x 0), .int .i32 (Vt.p x 1), .int .i32 (Vt.p x 2), .int .i32 (Vt.p x 3), .int .i32 (Vt.s x), .slice ao x.vs.length cap] 29)).alloc (.cells #[.int .i64 0, .int .i64 0, .int .i32 0, .int .i32 0, .int .i32 0, .slice none 0 0] 44)) := ⟨_, rfl⟩
  rw [← hwc] at hV hP hZ hX
  have HB := hide (And.intro hV (And.intro hP (And.intro hZ hX)))
  have HQ := hide (fun wx (hx : Ext wc wx) => show VQ wx _ _ from SR.ext h (hX.trans hx))
  have HI := hide hI
  obtain ⟨m, hme⟩ : ∃ m, x.vs.length = m := ⟨_, rfl⟩
  have HMX := hide hme
  have HRT := hide (fun wx => rightC_any v wx)
  have HLO := hide (fun (g : Nat) (wx : World) hB => lie_one x ao cap m 0 g wx hB hme hI.1)
  have HAL := hide (fun (g : Nat) (wx : World) hB => alike_one x ao cap m g wx hB hme)
  have HOK := hide (show winOk v x = (vwOk v && (clI x.p 0 && decide (m ≤ 4))) by unfold winOk; rw [hme])
  have HLY := hide (fun wx (hx : Ext wc wx) (hv : vwOk v = true) (h4 : x.vs.length ≤ 4) => layC_any v x (.slice ao x.vs.length cap) wx (SR.ext h (hX.trans hx)) (by omega) hv hI)
  rw [hme] at HB HLY HQ g0 hwc ⊢
  clear h hI hV hP hZ hX
  cases a1 : vwOk v with
  | false =>
    have HN := hide (show ¬ winOk v x = true by rw [unhide HOK, a1]; simp)
    rw [a1] at HRT
    clear a1 HLO HAL HLY hme
    go_enter Try.func24, Try.ntmps24
    go_wp2_with fail
    refine (unhide HRT _).mono ?_
    rintro e w1 ⟨rfl, hx1⟩
    rw [← hwc] at hx1
    have X1 := hide hx1
    clear hx1 hwc g0 g1 g2 g3 g4 g5
    have hz9 := (unhide HB).2.2.1.ext (unhide X1)
    obtain ⟨r0, r1, r2, r3, r4, r5⟩ := hz9.six
    obtain ⟨f0, f1, f2, f3, f4, f5⟩ := hz9.free6
    have HZ := hide hz9
    clear hz9
    go_wp2
    have hC3 := (unhide HZ).put6 (.int .i64 0) (.int .i64 0) (.int .i32 0) (.int .i32 0) (.int .i32 0) (.slice none 0 0)
    obtain ⟨z0, z1, z2, z3, z4, z5⟩ := hC3.six
    refine bodyPost_ret (v := .tuple #[.agg #[.int .i64 0, .int .i64 0, .int .i32 0, .int .i32 0, .int .i32 0, .slice none 0 0], .int .i64 2]) (by simp [results, Try.results24, go_sem, z0, z1, z2, z3, z4, z5]) rfl ?_
    unfold WdQ
    rw [if_neg (unhide HN)]
    exact ⟨rfl, ext_lay6 ((unhide HB).2.2.2.trans (unhide X1)) (by omega)⟩
  | true =>
    rw [a1] at HRT HOK
    have HLZ := hide (fun wx hx h4 => unhide HLY wx hx a1 h4)
    cases a2 : clI x.p 0 with
    | false =>
      have HN := hide (show ¬ winOk v x = true by rw [unhide HOK, a2]; simp)
      rw [a2] at HLO
      clear a1 a2 HAL HLY HLZ hme
      go_enter Try.func24, Try.ntmps24
      go_wp2_with fail
      refine (unhide HRT _).mono ?_
      rintro e w1 ⟨rfl, hx1⟩
      rw [← hwc] at hx1
      have X1 := hide hx1
      clear hx1 hwc g0 g1 g2 g3 g4 g5
      obtain ⟨p0, p1, p2, p3, p4, p5⟩ := ((unhide HB).2.1.ext (unhide X1)).six
      go_wp2_with (go_at_call 32; refine (unhide HLO _ _ (Blk.new _ _ _)).mono ?_; rintro e w2 ⟨rfl, hx2⟩; have X2 := hide ((unhide X1).trans (((Ext.refl w1).alloc _).trans hx2)); clear hx2; have hz9 := (unhide HB).2.2.1.ext (unhide X2); obtain ⟨r0, r1, r2, r3, r4, r5⟩ := hz9.six; obtain ⟨f0, f1, f2, f3, f4, f5⟩ := hz9.free6; have HZ := hide hz9; clear hz9)
      have hC3 := (unhide HZ).put6 (.int .i64 0) (.int .i64 0) (.int .i32 0) (.int .i32 0) (.int .i32 0) (.slice none 0 0)
      obtain ⟨z0, z1, z2, z3, z4, z5⟩ := hC3.six
      refine bodyPost_ret (v := .tuple #[.agg #[.int .i64 0, .int .i64 0, .int .i32 0, .int .i32 0, .int .i32 0, .slice none 0 0], .int .i64 2]) (by simp [results, Try.results24, go_sem, z0, z1, z2, z3, z4, z5]) rfl ?_
      unfold WdQ
      rw [if_neg (unhide HN)]
      exact ⟨rfl, ext_lay6 ((unhide HB).2.2.2.trans (unhide X2)) (by omega)⟩
    | true =>
      rw [a2] at HLO HOK
      by_cases a3 : m ≤ 4
      · have hb3 : decide (m ≤ 4) = true := by simpa using a3
        have HN := hide (show winOk v x = true by rw [unhide HOK, hb3]; rfl)
        rw [hb3] at HAL
        have H4A := hide a3
        clear a1 a2 a3 hb3 HLY hme
        go_enter Try.func24, Try.ntmps24
        go_wp2_with fail
        refine (unhide HRT _).mono ?_
        rintro e w1 ⟨rfl, hx1⟩
        rw [← hwc] at hx1
        have X1 := hide hx1
        clear hx1 hwc g0 g1 g2 g3 g4 g5
        obtain ⟨p0, p1, p2, p3, p4, p5⟩ := ((unhide HB).2.1.ext (unhide X1)).six
        have v5 := ((unhide HB).1.ext (unhide X1)).six
        go_wp2_with (first
          | (go_at_call 32; refine (unhide HLO _ _ (Blk.new _ _ _)).mono ?_; rintro e w2 ⟨rfl, hx2⟩; have X2 := hide ((unhide X1).trans (((Ext.refl w1).alloc _).trans hx2)); clear hx2; obtain ⟨p0, p1, p2, p3, p4, p5⟩ := ((unhide HB).2.1.ext (unhide X2)).six)
          | (go_at_call 30; refine (unhide HAL _ _ (Blk.new _ _ _)).mono ?_; rintro e w3 ⟨rfl, hx3⟩; have X3 := hide ((unhide X2).trans (((Ext.refl w2).alloc _).trans hx3)); clear hx3; obtain ⟨g0, g1, g2, g3, g4, g5⟩ := ((unhide HB).1.ext (unhide X3)).six; obtain ⟨p0, p1, p2, p3, p4, p5⟩ := ((unhide HB).2.1.ext (unhide X3)).six)
          | (go_at_call 33; refine (unhide HLZ _ (unhide X3) (unhide H4A)).mono ?_; rintro e w4 ⟨u4, rfl, hv4, hb4, ⟨ao4, cap4, rfl⟩, hx4⟩; have X4 := hide ((unhide X3).trans hx4); have H4 := hide (And.intro hv4 hb4); clear hv4 hb4 hx4; have hz9 := (unhide HB).2.2.1.ext (unhide X4); obtain ⟨r0, r1, r2, r3, r4, r5⟩ := hz9.six; obtain ⟨f0, f1, f2, f3, f4, f5⟩ := hz9.free6; have HZ := hide hz9; clear hz9))
        have hC3 := (unhide HZ).put6 (.int .i64 (layW v x).x) (.int .i64 (layW v x).y) (.int .i32 (layW v x).z) (.int .i32 (layW v x).w) (.int .i32 (layW v x).s) (.slice ao4 x.vs.length cap4)
        obtain ⟨z0, z1, z2, z3, z4, z5⟩ := hC3.six
        refine bodyPost_ret (v := .tuple #[.agg #[.int .i64 (Wn.x (layW v x)), .int .i64 (Wn.y (layW v x)), .int .i32 (Wn.z (layW v x)), .int .i32 (Wn.w (layW v x)), .int .i32 (Wn.s (layW v x)), .slice ao4 x.vs.length cap4], .int .i64 0]) (by simp [results, Try.results24, go_sem, z0, z1, z2, z3, z4, z5]) rfl ?_
        unfold WdQ
        rw [if_pos (unhide HN)]
        have hs0 := (unhide HB).2.2.1.lt
        have hs3 := (unhide X3).size
        refine ⟨_, rfl, (unhide H4).1.oth6 (fun _ c hc => by have := (unhide H4).2 c hc; omega), fun c hc => by have := (unhide H4).2 c hc; omega, ⟨ao4, cap4, rfl⟩, ext_lay6 ((unhide HB).2.2.2.trans (unhide X4)) (by omega)⟩
      · have hb3 : decide (m ≤ 4) = false := by simpa using a3
        have HN := hide (show ¬ winOk v x = true by rw [unhide HOK, hb3]; simp)
        rw [hb3] at HAL
        clear a1 a2 a3 hb3 HLY HLZ hme
        go_enter Try.func24, Try.ntmps24
        go_wp2_with fail
        refine (unhide HRT _).mono ?_
        rintro e w1 ⟨rfl, hx1⟩
        rw [← hwc] at hx1
        have X1 := hide hx1
        clear hx1 hwc g0 g1 g2 g3 g4 g5
        obtain ⟨p0, p1, p2, p3, p4, p5⟩ := ((unhide HB).2.1.ext (unhide X1)).six
        go_wp2_with (first
          | (go_at_call 32; refine (unhide HLO _ _ (Blk.new _ _ _)).mono ?_; rintro e w2 ⟨rfl, hx2⟩; have X2 := hide ((unhide X1).trans (((Ext.refl w1).alloc _).trans hx2)); clear hx2; obtain ⟨p0, p1, p2, p3, p4, p5⟩ := ((unhide HB).2.1.ext (unhide X2)).six)
          | (go_at_call 30; refine (unhide HAL _ _ (Blk.new _ _ _)).mono ?_; rintro e w3 ⟨rfl, hx3⟩; have X3 := hide ((unhide X2).trans (((Ext.refl w2).alloc _).trans hx3)); clear hx3; have hz9 := (unhide HB).2.2.1.ext (unhide X3); obtain ⟨r0, r1, r2, r3, r4, r5⟩ := hz9.six; obtain ⟨f0, f1, f2, f3, f4, f5⟩ := hz9.free6; have HZ := hide hz9; clear hz9))
        have hC3 := (unhide HZ).put6 (.int .i64 0) (.int .i64 0) (.int .i32 0) (.int .i32 0) (.int .i32 0) (.slice none 0 0)
        obtain ⟨z0, z1, z2, z3, z4, z5⟩ := hC3.six
        refine bodyPost_ret (v := .tuple #[.agg #[.int .i64 0, .int .i64 0, .int .i32 0, .int .i32 0, .int .i32 0, .slice none 0 0], .int .i64 2]) (by simp [results, Try.results24, go_sem, z0, z1, z2, z3, z4, z5]) rfl ?_
        unfold WdQ
        rw [if_neg (unhide HN)]
        exact ⟨rfl, ext_lay6 ((unhide HB).2.2.2.trans (unhide X3)) (by omega)⟩
end Go.Proofs.Ytbhdloanlagddaa
