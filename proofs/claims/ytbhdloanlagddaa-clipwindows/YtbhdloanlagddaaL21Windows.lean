/-
  Proved: ClipWindows answers true for every window, corner and number, and turns nothing that was there: a corner lies in the window where the document says, or is refused.
-/
import Derived.Test.YtbhdloanlagddaaHCa
import Derived.Test.YtbhdloanlagddaaHBb
import Derived.Test.YtbhdloanlagddaaHBc
import Derived.Test.YtbhdloanlagddaaFrV
namespace Go.Proofs.Ytbhdloanlagddaa
open Go.ChangeShapes Go.WideShapes Go.ChangeAt Go.RowKit
set_option linter.unusedVariables false
set_option linter.unusedSimpArgs false

theorem clI_0 {p : Nat → Int} (h : I32 (p 3)) : clI p 0 = decide (1 ≤ p 3) := by
  unfold clI
  rw [show clD p 0 = subI (p 3) 1 from rfl]
  unfold subI rawI clampI
  unfold I32 at h
  rw [Bool.eq_iff_iff]
  simp only [decide_eq_true_eq]
  omega
theorem winOk_eq {v : Vw} {x : Vt} (h : Vt32 x) : winOk v x = (vwOk v && (decide (1 ≤ x.p 3) && decide (x.vs.length ≤ 4))) := by unfold winOk; rw [clI_0 (h.1 3)]
theorem nOk {n : Int} (h : 0 ≤ n ∧ n ≤ 6) : clE n = 0 ∧ decide (n < 0) = false ∧ decide (6 < n) = false := by
  refine ⟨by unfold clE; rw [if_pos h], by simpa using h.1, by simpa using h.2⟩
theorem nBad {n : Int} {p : Nat → Int} (h : ¬ (0 ≤ n ∧ n ≤ 6)) : clE n = 2 ∧ clD p n = 0 ∧ (decide (n < 0) = true ∨ (decide (n < 0) = false ∧ decide (6 < n) = true)) := by
  refine ⟨by unfold clE; rw [if_neg h], ?_, ?_⟩
  · have : (n == 0) = false ∧ (n == 1) = false ∧ (n == 2) = false ∧ (n == 3) = false ∧ (n == 4) = false ∧ (n == 5) = false ∧ (n == 6) = false := by
      simp only [beq_eq_false_iff_ne]
      omega
    exact (clD_off this).1
  · by_cases g : n < 0
    · exact .inl (by simpa using g)
    · exact .inr ⟨by simpa using g, by simp; omega⟩

set_option maxRecDepth 10000 in
set_option maxHeartbeats 4000000 in
theorem cwin_walk (v : Vw) (x : Vt) (u : Value) (n : Int) (w : World) (h : VQ w u x.vs) (hI : Vt32 x) :
    Calls Try.prog 6 #[.agg #[.int .i64 (Vw.X v), .int .i64 (Vw.Y v), .int .i64 (Vw.W v), .int .i64 (Vw.H v), .int .i32 (Vw.Nr v), .int .i32 (Vw.Fr v)], .agg #[.int .i32 (Vt.p x 0), .int .i32 (Vt.p x 1), .int .i32 (Vt.p x 2), .int .i32 (Vt.p x 3), .int .i32 (Vt.s x), u], .int .i64 n] w fun e w' => e = .returned (.bool true) ∧ Ext w w' := by
  obtain ⟨ao, cap, rfl⟩ := SR.shp h
  have hV : Blk ((w.alloc (.cells #[.int .i64 (Vw.X v), .int .i64 (Vw.Y v), .int .i64 (Vw.W v), .int .i64 (Vw.H v), .int .i32 (Vw.Nr v), .int .i32 (Vw.Fr v)] 24)).alloc (.cells #[.int .i32 (Vt.p x 0), .int .i32 (Vt.p x 1), .int .i32 (Vt.p x 2), .int .i32 (Vt.p x 3), .int .i32 (Vt.s x), .slice ao x.vs.length cap] 29)) w.heap.size #[.int .i64 (Vw.X v), .int .i64 (Vw.Y v), .int .i64 (Vw.W v), .int .i64 (Vw.H v), .int .i32 (Vw.Nr v), .int .i32 (Vw.Fr v)] 24 := (Blk.new _ _ _).alloc _
  have hP : Blk ((w.alloc (.cells #[.int .i64 (Vw.X v), .int .i64 (Vw.Y v), .int .i64 (Vw.W v), .int .i64 (Vw.H v), .int .i32 (Vw.Nr v), .int .i32 (Vw.Fr v)] 24)).alloc (.cells #[.int .i32 (Vt.p x 0), .int .i32 (Vt.p x 1), .int .i32 (Vt.p x 2), .int .i32 (Vt.p x 3), .int .i32 (Vt.s x), .slice ao x.vs.length cap] 29)) (w.heap.size + 1) #[.int .i32 (Vt.p x 0), .int .i32 (Vt.p x 1), .int .i32 (Vt.p x 2), .int .i32 (Vt.p x 3), .int .i32 (Vt.s x), .slice ao x.vs.length cap] 29 := Blk.at (by simp)
  have hX : Ext w ((w.alloc (.cells #[.int .i64 (Vw.X v), .int .i64 (Vw.Y v), .int .i64 (Vw.W v), .int .i64 (Vw.H v), .int .i32 (Vw.Nr v), .int .i32 (Vw.Fr v)] 24)).alloc (.cells #[.int .i32 (Vt.p x 0), .int .i32 (Vt.p x 1), .int .i32 (Vt.p x 2), .int .i32 (Vt.p x 3), .int .i32 (Vt.s x), .slice ao x.vs.length cap] 29)) := ((Ext.refl w).alloc _).alloc _
  obtain ⟨wc, hwc⟩ : ∃ wc, wc = ((w.alloc (.cells #[.int .i64 (Vw.X v), .int .i64 (Vw.Y v), .int .i64 (Vw.W v), .int .i64 (Vw.H v), .int .i32 (Vw.Nr v), .int .i32 (Vw.Fr v)] 24)).alloc (.cells #[.int .i32 (Vt.p x 0), .int .i32 (Vt.p x 1), .int .i32 (Vt.p x 2), .int .i32 (Vt.p x 3), .int .i32 (Vt.s x), .slice ao x.vs.length cap] 29)) := ⟨_, rfl⟩
  rw [← hwc] at hV hP hX
  have HB := hide (And.intro hV (And.intro hP hX))
  have HQ := hide (fun wx (hx : Ext wc wx) => show VQ wx (.slice ao x.vs.length cap) x.vs from SR.ext h (hX.trans hx))
  have HWI := hide (fun wx (hx : Ext wc wx) => windowC_any v x (.slice ao x.vs.length cap) wx (unhide HQ wx hx) hI)
  have HRW := hide (fun wx (hx : Ext wc wx) (hv : vwOk v = true) => refWindow_any v x (.slice ao x.vs.length cap) wx (unhide HQ wx hx) hv hI)
  have HDI := hide (fun wx => dist_any x (.slice ao x.vs.length cap) n wx hI.1)
  have HRD := hide (fun wx hn => refDist_any x (.slice ao x.vs.length cap) n wx hI.1 hn)
  have HOK := hide (winOk_eq (v := v) hI)
  obtain ⟨m, hm⟩ : ∃ m, x.vs.length = m := ⟨_, rfl⟩
  have HM := hide hm
  rw [hm] at HB HQ HWI HRW HDI HRD HOK hwc ⊢
  clear h hI hV hP hX hm
  obtain ⟨bn, hbn⟩ : ∃ bn, bn = decide (0 ≤ n ∧ n ≤ 6) := ⟨_, rfl⟩
  cases hw : winOk v x with
  | true =>
    have hwk := unhide HOK
    rw [hw] at hwk
    simp only [Bool.true_eq, Bool.and_eq_true, decide_eq_true_eq] at hwk
    obtain ⟨k1, k2, k3⟩ := hwk
    have HK := hide (And.intro k1 (And.intro k2 k3))
    have HRW2 := hide (fun wx hx => unhide HRW wx hx k1)
    have HL1 := hide (fun wx => rightC_any v wx)
    have HL2 := hide (fun wx => refRight21_any v wx)
    have b1 : decide (x.p 3 < 1) = false := by simp; omega
    have b2 : decide ((4 : Int) < (m : Int)) = false := by simp; omega
    rw [k1] at HL1 HL2
    clear k1 k2 k3 HOK HRW hbn
    go_enter Try.func6, Try.ntmps6
    go_wp2_with fail
    refine (wakes21_any _).mono ?_
    rintro e w1 ⟨rfl, hx1⟩
    rw [← hwc] at hx1
    have X1 := hide hx1
    clear hx1 hwc
    obtain ⟨g0, g1, g2, g3, g4, g5⟩ := ((unhide HB).1.ext (unhide X1)).six
    obtain ⟨p0, p1, p2, p3, p4, p5⟩ := ((unhide HB).2.1.ext (unhide X1)).six
    go_wp2_with fail
    refine (unhide HWI _ (unhide X1)).mono ?_
    intro e w2 h2
    unfold WdQ at h2
    rw [if_pos hw] at h2
    obtain ⟨u2, rfl, hv2, hb2, ⟨a2, c2, rfl⟩, hx2⟩ := h2
    rw [unhide HM] at hv2 hb2 ⊢
    have X2 := hide ((unhide X1).trans hx2)
    have HV2 := hide hv2
    clear hx2 hv2 hb2 hw
    obtain ⟨l, hl⟩ : ∃ l, layW v x = l := ⟨_, rfl⟩
    unfold RwQ at HRW2
    rw [hl] at HRW2 ⊢
    clear hl
    have X3 := hide (show Ext wc (w2.alloc (.cells #[.int .i64 (Wn.x l), .int .i64 (Wn.y l), .int .i32 (Wn.z l), .int .i32 (Wn.w l), .int .i32 (Wn.s l), .slice a2 m c2] 44)) from (unhide X2).alloc _)
    have HWN := hide (Blk.new w2 #[.int .i64 (Wn.x l), .int .i64 (Wn.y l), .int .i32 (Wn.z l), .int .i32 (Wn.w l), .int .i32 (Wn.s l), .slice a2 m c2] 44)
    have HV3 := hide (show VQ (w2.alloc (.cells #[.int .i64 (Wn.x l), .int .i64 (Wn.y l), .int .i32 (Wn.z l), .int .i32 (Wn.w l), .int .i32 (Wn.s l), .slice a2 m c2] 44)) (.slice a2 m c2) x.vs from SR.ext (unhide HV2) ((Ext.refl w2).alloc _))
    obtain ⟨g0, g1, g2, g3, g4, g5⟩ := ((unhide HB).1.ext (unhide X3)).six
    obtain ⟨p0, p1, p2, p3, p4, p5⟩ := ((unhide HB).2.1.ext (unhide X3)).six
    go_wp2_with fail
    refine (unhide HDI _).mono ?_
    rintro e w4 ⟨rfl, hx4⟩
    have X4 := hide ((unhide X3).trans hx4)
    have HW4 := hide ((unhide HWN).ext hx4)
    have HV4 := hide (show VQ w4 (.slice a2 m c2) x.vs from SR.ext (unhide HV3) hx4)
    clear hx4
    go_upto_region 5 with fail
    have kv0 : ∀ wy, Ext w4 wy → wy.cell? ⟨w.heap.size, 0, none⟩ = some (.int .i64 (Vw.X v)) := fun wy hy => ((unhide HB).1.ext ((unhide X4).trans hy)).six.1
    have kv1 : ∀ wy, Ext w4 wy → wy.cell? ⟨w.heap.size, 1, none⟩ = some (.int .i64 (Vw.Y v)) := fun wy hy => ((unhide HB).1.ext ((unhide X4).trans hy)).six.2.1
    have kv2 : ∀ wy, Ext w4 wy → wy.cell? ⟨w.heap.size, 2, none⟩ = some (.int .i64 (Vw.W v)) := fun wy hy => ((unhide HB).1.ext ((unhide X4).trans hy)).six.2.2.1
    have kv3 : ∀ wy, Ext w4 wy → wy.cell? ⟨w.heap.size, 3, none⟩ = some (.int .i64 (Vw.H v)) := fun wy hy => ((unhide HB).1.ext ((unhide X4).trans hy)).six.2.2.2.1
    have kv4 : ∀ wy, Ext w4 wy → wy.cell? ⟨w.heap.size, 4, none⟩ = some (.int .i32 (Vw.Nr v)) := fun wy hy => ((unhide HB).1.ext ((unhide X4).trans hy)).six.2.2.2.2.1
    have kv5 : ∀ wy, Ext w4 wy → wy.cell? ⟨w.heap.size, 5, none⟩ = some (.int .i32 (Vw.Fr v)) := fun wy hy => ((unhide HB).1.ext ((unhide X4).trans hy)).six.2.2.2.2.2
    have D4 := hide (show Ext w4 w4.drew from (Ext.refl w4).drew)
    go_cut [29] (fun q wz => ∃ w5, w5 = wz ∧ q = .bool false ∧ Ext w4 w5)
    case first =>
      go_region_held3 (fun wy => Ext w4 wy)
        (first | with_reducible exact unhide D4 | with_reducible exact unhide D6 | with_reducible exact unhide D5)
        (first
          | (go_at_call 25; refine (unhide HL1 _).mono ?_; rintro e w5 ⟨rfl, hx5⟩; have D5 := hide ((unhide D4).trans hx5); clear hx5)
          | (go_at_call 11; refine (unhide HL2 _).mono ?_; rintro e w6 ⟨rfl, hx6⟩; have D6 := hide ((unhide D5).trans hx6); clear hx6))
      all_goals go_wp2
      all_goals go_meet
      all_goals exact ⟨_, rfl, by first | rfl | simp, unhide D6⟩
    case rest =>
    obtain ⟨w5, rfl, rfl, hx5⟩ := hcut
    have X5 := hide ((unhide X4).trans hx5)
    have D45 := hide hx5
    clear hx5 kv0 kv1 kv2 kv3 kv4 kv5 D4 g0 g1 g2 g3 g4 g5 p0 p1 p2 p3 p4 p5
    obtain ⟨g0, g1, g2, g3, g4, g5⟩ := ((unhide HB).1.ext (unhide X5)).six
    obtain ⟨p0, p1, p2, p3, p4, p5⟩ := ((unhide HB).2.1.ext (unhide X5)).six
    by_cases hn : 0 ≤ n ∧ n ≤ 6
    · obtain ⟨n1, n2, n3⟩ := nOk hn
      have HRD2 := hide (fun wx => unhide HRD wx hn)
      have D57 := hide (Ext.refl w5)
      rw [n1]
      generalize clD x.p n = dd at *
      clear hn n1 HRD
      go_upto_region 14 with (first
        | (go_at_call 23; refine (unhide HRD2 _).mono ?_; rintro e w7 ⟨rfl, hx7⟩; have D7 := hide ((unhide D57).trans hx7); clear hx7; obtain ⟨g0, g1, g2, g3, g4, g5⟩ := ((unhide HB).1.ext ((unhide X5).trans (unhide D7))).six; obtain ⟨p0, p1, p2, p3, p4, p5⟩ := ((unhide HB).2.1.ext ((unhide X5).trans (unhide D7))).six)
        | (go_at_call 11; refine (unhide HL2 _).mono ?_; rintro e w8 ⟨rfl, hx8⟩; have D8 := hide ((unhide D7).trans hx8); clear hx8; obtain ⟨g0, g1, g2, g3, g4, g5⟩ := ((unhide HB).1.ext ((unhide X5).trans (unhide D8))).six; obtain ⟨p0, p1, p2, p3, p4, p5⟩ := ((unhide HB).2.1.ext ((unhide X5).trans (unhide D8))).six))
      have X8 := hide ((unhide X5).trans (unhide D8))
      have HW8 := hide ((unhide HW4).ext ((unhide D45).trans (unhide D8)))
      have HV8 := hide (show VQ w8 (.slice a2 m c2) x.vs from SR.ext (unhide HV4) ((unhide D45).trans (unhide D8)))
      have kv0 : ∀ wy, Ext w8 wy → wy.cell? ⟨w.heap.size, 0, none⟩ = some (.int .i64 (Vw.X v)) := fun wy hy => ((unhide HB).1.ext ((unhide X8).trans hy)).six.1
      have kv1 : ∀ wy, Ext w8 wy → wy.cell? ⟨w.heap.size, 1, none⟩ = some (.int .i64 (Vw.Y v)) := fun wy hy => ((unhide HB).1.ext ((unhide X8).trans hy)).six.2.1
      have kv2 : ∀ wy, Ext w8 wy → wy.cell? ⟨w.heap.size, 2, none⟩ = some (.int .i64 (Vw.W v)) := fun wy hy => ((unhide HB).1.ext ((unhide X8).trans hy)).six.2.2.1
      have kv3 : ∀ wy, Ext w8 wy → wy.cell? ⟨w.heap.size, 3, none⟩ = some (.int .i64 (Vw.H v)) := fun wy hy => ((unhide HB).1.ext ((unhide X8).trans hy)).six.2.2.2.1
      have kv4 : ∀ wy, Ext w8 wy → wy.cell? ⟨w.heap.size, 4, none⟩ = some (.int .i32 (Vw.Nr v)) := fun wy hy => ((unhide HB).1.ext ((unhide X8).trans hy)).six.2.2.2.2.1
      have kv5 : ∀ wy, Ext w8 wy → wy.cell? ⟨w.heap.size, 5, none⟩ = some (.int .i32 (Vw.Fr v)) := fun wy hy => ((unhide HB).1.ext ((unhide X8).trans hy)).six.2.2.2.2.2
      have kp0 : ∀ wy, Ext w8 wy → wy.cell? ⟨w.heap.size + 1, 0, none⟩ = some (.int .i32 (Vt.p x 0)) := fun wy hy => ((unhide HB).2.1.ext ((unhide X8).trans hy)).six.1
      have kp1 : ∀ wy, Ext w8 wy → wy.cell? ⟨w.heap.size + 1, 1, none⟩ = some (.int .i32 (Vt.p x 1)) := fun wy hy => ((unhide HB).2.1.ext ((unhide X8).trans hy)).six.2.1
      have kp2 : ∀ wy, Ext w8 wy → wy.cell? ⟨w.heap.size + 1, 2, none⟩ = some (.int .i32 (Vt.p x 2)) := fun wy hy => ((unhide HB).2.1.ext ((unhide X8).trans hy)).six.2.2.1
      have kp3 : ∀ wy, Ext w8 wy → wy.cell? ⟨w.heap.size + 1, 3, none⟩ = some (.int .i32 (Vt.p x 3)) := fun wy hy => ((unhide HB).2.1.ext ((unhide X8).trans hy)).six.2.2.2.1
      have kp4 : ∀ wy, Ext w8 wy → wy.cell? ⟨w.heap.size + 1, 4, none⟩ = some (.int .i32 (Vt.s x)) := fun wy hy => ((unhide HB).2.1.ext ((unhide X8).trans hy)).six.2.2.2.2.1
      have kp5 : ∀ wy, Ext w8 wy → wy.cell? ⟨w.heap.size + 1, 5, none⟩ = some (.slice ao m cap) := fun wy hy => ((unhide HB).2.1.ext ((unhide X8).trans hy)).six.2.2.2.2.2
      have kw0 : ∀ wy, Ext w8 wy → wy.cell? ⟨w2.heap.size, 0, none⟩ = some (.int .i64 (Wn.x l)) := fun wy hy => ((unhide HW8).ext hy).six.1
      have kw1 : ∀ wy, Ext w8 wy → wy.cell? ⟨w2.heap.size, 1, none⟩ = some (.int .i64 (Wn.y l)) := fun wy hy => ((unhide HW8).ext hy).six.2.1
      have kw2 : ∀ wy, Ext w8 wy → wy.cell? ⟨w2.heap.size, 2, none⟩ = some (.int .i32 (Wn.z l)) := fun wy hy => ((unhide HW8).ext hy).six.2.2.1
      have kw3 : ∀ wy, Ext w8 wy → wy.cell? ⟨w2.heap.size, 3, none⟩ = some (.int .i32 (Wn.w l)) := fun wy hy => ((unhide HW8).ext hy).six.2.2.2.1
      have kw4 : ∀ wy, Ext w8 wy → wy.cell? ⟨w2.heap.size, 4, none⟩ = some (.int .i32 (Wn.s l)) := fun wy hy => ((unhide HW8).ext hy).six.2.2.2.2.1
      have kw5 : ∀ wy, Ext w8 wy → wy.cell? ⟨w2.heap.size, 5, none⟩ = some (.slice a2 m c2) := fun wy hy => ((unhide HW8).ext hy).six.2.2.2.2.2
      have E8 := hide (show Ext w8 w8.drew from (Ext.refl w8).drew)
      go_cut [6] (fun q wz => ∃ w9, w9 = wz ∧ q = .bool true ∧ Ext w8 w9)
      case first =>
        go_region_held3 (fun wy => Ext w8 wy)
          (first | with_reducible exact unhide E8 | with_reducible exact unhide E10 | with_reducible exact unhide E9)
          (first
            | (go_at_call 27; refine (unhide HRW2 _ ((unhide X8).trans (unhide E8))).mono ?_; rintro e w9 ⟨rfl, hx9⟩; have E9 := hide ((unhide E8).trans hx9); clear hx9)
            | (go_at_call 26; refine (sameWin_any l (.slice a2 m c2) (.slice ao m cap) x.vs _ (SR.ext (unhide HV8) (unhide E9)) (unhide HQ _ ((unhide X8).trans (unhide E9))) (by rw [unhide HM]; have := (unhide HK).2.2; omega)).mono ?_; rintro e w10 ⟨rfl, hx10⟩; have E10 := hide ((unhide E9).trans hx10); clear hx10))
        all_goals go_wp2
        all_goals go_meet
        all_goals exact ⟨_, rfl, by first | rfl | simp, unhide E10⟩
      case rest =>
      obtain ⟨w9, rfl, rfl, hx9⟩ := hcut
      have X9 := hide ((unhide X8).trans hx9)
      clear hx9 kv0 kv1 kv2 kv3 kv4 kv5 kp0 kp1 kp2 kp3 kp4 kp5 kw0 kw1 kw2 kw3 kw4 kw5 E8
      go_wp2
      go_ret
      exact ⟨rfl, (unhide HB).2.2.trans (unhide X9)⟩
    · obtain ⟨n1, n2, n3⟩ := nBad (p := x.p) hn
      have D7 := hide (Ext.refl w5)
      rw [n1, n2]
      clear hn n1 n2 HRD
      rcases n3 with n3 | ⟨n3, n4⟩
      · go_upto_region 14 with (go_at_call 11; refine (unhide HL2 _).mono ?_; rintro e w8 ⟨rfl, hx8⟩; have D8 := hide ((unhide D7).trans hx8); clear hx8; obtain ⟨g0, g1, g2, g3, g4, g5⟩ := ((unhide HB).1.ext ((unhide X5).trans (unhide D8))).six; obtain ⟨p0, p1, p2, p3, p4, p5⟩ := ((unhide HB).2.1.ext ((unhide X5).trans (unhide D8))).six)
        have X8 := hide ((unhide X5).trans (unhide D8))
        have HW8 := hide ((unhide HW4).ext ((unhide D45).trans (unhide D8)))
        have HV8 := hide (show VQ w8 (.slice a2 m c2) x.vs from SR.ext (unhide HV4) ((unhide D45).trans (unhide D8)))
        have kv0 : ∀ wy, Ext w8 wy → wy.cell? ⟨w.heap.size, 0, none⟩ = some (.int .i64 (Vw.X v)) := fun wy hy => ((unhide HB).1.ext ((unhide X8).trans hy)).six.1
        have kv1 : ∀ wy, Ext w8 wy → wy.cell? ⟨w.heap.size, 1, none⟩ = some (.int .i64 (Vw.Y v)) := fun wy hy => ((unhide HB).1.ext ((unhide X8).trans hy)).six.2.1
        have kv2 : ∀ wy, Ext w8 wy → wy.cell? ⟨w.heap.size, 2, none⟩ = some (.int .i64 (Vw.W v)) := fun wy hy => ((unhide HB).1.ext ((unhide X8).trans hy)).six.2.2.1
        have kv3 : ∀ wy, Ext w8 wy → wy.cell? ⟨w.heap.size, 3, none⟩ = some (.int .i64 (Vw.H v)) := fun wy hy => ((unhide HB).1.ext ((unhide X8).trans hy)).six.2.2.2.1
        have kv4 : ∀ wy, Ext w8 wy → wy.cell? ⟨w.heap.size, 4, none⟩ = some (.int .i32 (Vw.Nr v)) := fun wy hy => ((unhide HB).1.ext ((unhide X8).trans hy)).six.2.2.2.2.1
        have kv5 : ∀ wy, Ext w8 wy → wy.cell? ⟨w.heap.size, 5, none⟩ = some (.int .i32 (Vw.Fr v)) := fun wy hy => ((unhide HB).1.ext ((unhide X8).trans hy)).six.2.2.2.2.2
        have kp0 : ∀ wy, Ext w8 wy → wy.cell? ⟨w.heap.size + 1, 0, none⟩ = some (.int .i32 (Vt.p x 0)) := fun wy hy => ((unhide HB).2.1.ext ((unhide X8).trans hy)).six.1
        have kp1 : ∀ wy, Ext w8 wy → wy.cell? ⟨w.heap.size + 1, 1, none⟩ = some (.int .i32 (Vt.p x 1)) := fun wy hy => ((unhide HB).2.1.ext ((unhide X8).trans hy)).six.2.1
        have kp2 : ∀ wy, Ext w8 wy → wy.cell? ⟨w.heap.size + 1, 2, none⟩ = some (.int .i32 (Vt.p x 2)) := fun wy hy => ((unhide HB).2.1.ext ((unhide X8).trans hy)).six.2.2.1
        have kp3 : ∀ wy, Ext w8 wy → wy.cell? ⟨w.heap.size + 1, 3, none⟩ = some (.int .i32 (Vt.p x 3)) := fun wy hy => ((unhide HB).2.1.ext ((unhide X8).trans hy)).six.2.2.2.1
        have kp4 : ∀ wy, Ext w8 wy → wy.cell? ⟨w.heap.size + 1, 4, none⟩ = some (.int .i32 (Vt.s x)) := fun wy hy => ((unhide HB).2.1.ext ((unhide X8).trans hy)).six.2.2.2.2.1
        have kp5 : ∀ wy, Ext w8 wy → wy.cell? ⟨w.heap.size + 1, 5, none⟩ = some (.slice ao m cap) := fun wy hy => ((unhide HB).2.1.ext ((unhide X8).trans hy)).six.2.2.2.2.2
        have kw0 : ∀ wy, Ext w8 wy → wy.cell? ⟨w2.heap.size, 0, none⟩ = some (.int .i64 (Wn.x l)) := fun wy hy => ((unhide HW8).ext hy).six.1
        have kw1 : ∀ wy, Ext w8 wy → wy.cell? ⟨w2.heap.size, 1, none⟩ = some (.int .i64 (Wn.y l)) := fun wy hy => ((unhide HW8).ext hy).six.2.1
        have kw2 : ∀ wy, Ext w8 wy → wy.cell? ⟨w2.heap.size, 2, none⟩ = some (.int .i32 (Wn.z l)) := fun wy hy => ((unhide HW8).ext hy).six.2.2.1
        have kw3 : ∀ wy, Ext w8 wy → wy.cell? ⟨w2.heap.size, 3, none⟩ = some (.int .i32 (Wn.w l)) := fun wy hy => ((unhide HW8).ext hy).six.2.2.2.1
        have kw4 : ∀ wy, Ext w8 wy → wy.cell? ⟨w2.heap.size, 4, none⟩ = some (.int .i32 (Wn.s l)) := fun wy hy => ((unhide HW8).ext hy).six.2.2.2.2.1
        have kw5 : ∀ wy, Ext w8 wy → wy.cell? ⟨w2.heap.size, 5, none⟩ = some (.slice a2 m c2) := fun wy hy => ((unhide HW8).ext hy).six.2.2.2.2.2
        have E8 := hide (show Ext w8 w8.drew from (Ext.refl w8).drew)
        go_cut [6] (fun q wz => ∃ w9, w9 = wz ∧ q = .bool true ∧ Ext w8 w9)
        case first =>
          go_region_held3 (fun wy => Ext w8 wy)
            (first | with_reducible exact unhide E8 | with_reducible exact unhide E10 | with_reducible exact unhide E9)
            (first
              | (go_at_call 27; refine (unhide HRW2 _ ((unhide X8).trans (unhide E8))).mono ?_; rintro e w9 ⟨rfl, hx9⟩; have E9 := hide ((unhide E8).trans hx9); clear hx9)
              | (go_at_call 26; refine (sameWin_any l (.slice a2 m c2) (.slice ao m cap) x.vs _ (SR.ext (unhide HV8) (unhide E9)) (unhide HQ _ ((unhide X8).trans (unhide E9))) (by rw [unhide HM]; have := (unhide HK).2.2; omega)).mono ?_; rintro e w10 ⟨rfl, hx10⟩; have E10 := hide ((unhide E9).trans hx10); clear hx10))
          all_goals go_wp2
          all_goals go_meet
          all_goals exact ⟨_, rfl, by first | rfl | simp, unhide E10⟩
        case rest =>
        obtain ⟨w9, rfl, rfl, hx9⟩ := hcut
        have X9 := hide ((unhide X8).trans hx9)
        clear hx9 kv0 kv1 kv2 kv3 kv4 kv5 kp0 kp1 kp2 kp3 kp4 kp5 kw0 kw1 kw2 kw3 kw4 kw5 E8
        go_wp2
        go_ret
        exact ⟨rfl, (unhide HB).2.2.trans (unhide X9)⟩
      · go_upto_region 14 with (go_at_call 11; refine (unhide HL2 _).mono ?_; rintro e w8 ⟨rfl, hx8⟩; have D8 := hide ((unhide D7).trans hx8); clear hx8; obtain ⟨g0, g1, g2, g3, g4, g5⟩ := ((unhide HB).1.ext ((unhide X5).trans (unhide D8))).six; obtain ⟨p0, p1, p2, p3, p4, p5⟩ := ((unhide HB).2.1.ext ((unhide X5).trans (unhide D8))).six)
        have X8 := hide ((unhide X5).trans (unhide D8))
        have HW8 := hide ((unhide HW4).ext ((unhide D45).trans (unhide D8)))
        have HV8 := hide (show VQ w8 (.slice a2 m c2) x.vs from SR.ext (unhide HV4) ((unhide D45).trans (unhide D8)))
        have kv0 : ∀ wy, Ext w8 wy → wy.cell? ⟨w.heap.size, 0, none⟩ = some (.int .i64 (Vw.X v)) := fun wy hy => ((unhide HB).1.ext ((unhide X8).trans hy)).six.1
        have kv1 : ∀ wy, Ext w8 wy → wy.cell? ⟨w.heap.size, 1, none⟩ = some (.int .i64 (Vw.Y v)) := fun wy hy => ((unhide HB).1.ext ((unhide X8).trans hy)).six.2.1
        have kv2 : ∀ wy, Ext w8 wy → wy.cell? ⟨w.heap.size, 2, none⟩ = some (.int .i64 (Vw.W v)) := fun wy hy => ((unhide HB).1.ext ((unhide X8).trans hy)).six.2.2.1
        have kv3 : ∀ wy, Ext w8 wy → wy.cell? ⟨w.heap.size, 3, none⟩ = some (.int .i64 (Vw.H v)) := fun wy hy => ((unhide HB).1.ext ((unhide X8).trans hy)).six.2.2.2.1
        have kv4 : ∀ wy, Ext w8 wy → wy.cell? ⟨w.heap.size, 4, none⟩ = some (.int .i32 (Vw.Nr v)) := fun wy hy => ((unhide HB).1.ext ((unhide X8).trans hy)).six.2.2.2.2.1
        have kv5 : ∀ wy, Ext w8 wy → wy.cell? ⟨w.heap.size, 5, none⟩ = some (.int .i32 (Vw.Fr v)) := fun wy hy => ((unhide HB).1.ext ((unhide X8).trans hy)).six.2.2.2.2.2
        have kp0 : ∀ wy, Ext w8 wy → wy.cell? ⟨w.heap.size + 1, 0, none⟩ = some (.int .i32 (Vt.p x 0)) := fun wy hy => ((unhide HB).2.1.ext ((unhide X8).trans hy)).six.1
        have kp1 : ∀ wy, Ext w8 wy → wy.cell? ⟨w.heap.size + 1, 1, none⟩ = some (.int .i32 (Vt.p x 1)) := fun wy hy => ((unhide HB).2.1.ext ((unhide X8).trans hy)).six.2.1
        have kp2 : ∀ wy, Ext w8 wy → wy.cell? ⟨w.heap.size + 1, 2, none⟩ = some (.int .i32 (Vt.p x 2)) := fun wy hy => ((unhide HB).2.1.ext ((unhide X8).trans hy)).six.2.2.1
        have kp3 : ∀ wy, Ext w8 wy → wy.cell? ⟨w.heap.size + 1, 3, none⟩ = some (.int .i32 (Vt.p x 3)) := fun wy hy => ((unhide HB).2.1.ext ((unhide X8).trans hy)).six.2.2.2.1
        have kp4 : ∀ wy, Ext w8 wy → wy.cell? ⟨w.heap.size + 1, 4, none⟩ = some (.int .i32 (Vt.s x)) := fun wy hy => ((unhide HB).2.1.ext ((unhide X8).trans hy)).six.2.2.2.2.1
        have kp5 : ∀ wy, Ext w8 wy → wy.cell? ⟨w.heap.size + 1, 5, none⟩ = some (.slice ao m cap) := fun wy hy => ((unhide HB).2.1.ext ((unhide X8).trans hy)).six.2.2.2.2.2
        have kw0 : ∀ wy, Ext w8 wy → wy.cell? ⟨w2.heap.size, 0, none⟩ = some (.int .i64 (Wn.x l)) := fun wy hy => ((unhide HW8).ext hy).six.1
        have kw1 : ∀ wy, Ext w8 wy → wy.cell? ⟨w2.heap.size, 1, none⟩ = some (.int .i64 (Wn.y l)) := fun wy hy => ((unhide HW8).ext hy).six.2.1
        have kw2 : ∀ wy, Ext w8 wy → wy.cell? ⟨w2.heap.size, 2, none⟩ = some (.int .i32 (Wn.z l)) := fun wy hy => ((unhide HW8).ext hy).six.2.2.1
        have kw3 : ∀ wy, Ext w8 wy → wy.cell? ⟨w2.heap.size, 3, none⟩ = some (.int .i32 (Wn.w l)) := fun wy hy => ((unhide HW8).ext hy).six.2.2.2.1
        have kw4 : ∀ wy, Ext w8 wy → wy.cell? ⟨w2.heap.size, 4, none⟩ = some (.int .i32 (Wn.s l)) := fun wy hy => ((unhide HW8).ext hy).six.2.2.2.2.1
        have kw5 : ∀ wy, Ext w8 wy → wy.cell? ⟨w2.heap.size, 5, none⟩ = some (.slice a2 m c2) := fun wy hy => ((unhide HW8).ext hy).six.2.2.2.2.2
        have E8 := hide (show Ext w8 w8.drew from (Ext.refl w8).drew)
        go_cut [6] (fun q wz => ∃ w9, w9 = wz ∧ q = .bool true ∧ Ext w8 w9)
        case first =>
          go_region_held3 (fun wy => Ext w8 wy)
            (first | with_reducible exact unhide E8 | with_reducible exact unhide E10 | with_reducible exact unhide E9)
            (first
              | (go_at_call 27; refine (unhide HRW2 _ ((unhide X8).trans (unhide E8))).mono ?_; rintro e w9 ⟨rfl, hx9⟩; have E9 := hide ((unhide E8).trans hx9); clear hx9)
              | (go_at_call 26; refine (sameWin_any l (.slice a2 m c2) (.slice ao m cap) x.vs _ (SR.ext (unhide HV8) (unhide E9)) (unhide HQ _ ((unhide X8).trans (unhide E9))) (by rw [unhide HM]; have := (unhide HK).2.2; omega)).mono ?_; rintro e w10 ⟨rfl, hx10⟩; have E10 := hide ((unhide E9).trans hx10); clear hx10))
          all_goals go_wp2
          all_goals go_meet
          all_goals exact ⟨_, rfl, by first | rfl | simp, unhide E10⟩
        case rest =>
        obtain ⟨w9, rfl, rfl, hx9⟩ := hcut
        have X9 := hide ((unhide X8).trans hx9)
        clear hx9 kv0 kv1 kv2 kv3 kv4 kv5 kp0 kp1 kp2 kp3 kp4 kp5 kw0 kw1 kw2 kw3 kw4 kw5 E8
        go_wp2
        go_ret
        exact ⟨rfl, (unhide HB).2.2.trans (unhide X9)⟩
  | false =>
    cases k1 : vwOk v with
    | false =>
      have HL1 := hide (fun wx => rightC_any v wx)
      have HL2 := hide (fun wx => refRight21_any v wx)
      rw [k1] at HL1 HL2
      clear HOK HRW HM
      go_enter Try.func6, Try.ntmps6
      go_wp2_with fail
      refine (wakes21_any _).mono ?_
      rintro e w1 ⟨rfl, hx1⟩
      rw [← hwc] at hx1
      have X1 := hide hx1
      clear hx1 hwc
      obtain ⟨g0, g1, g2, g3, g4, g5⟩ := ((unhide HB).1.ext (unhide X1)).six
      obtain ⟨p0, p1, p2, p3, p4, p5⟩ := ((unhide HB).2.1.ext (unhide X1)).six
      go_wp2_with fail
      refine (unhide HWI _ (unhide X1)).mono ?_
      intro e w2 h2
      unfold WdQ at h2
      rw [if_neg (by rw [hw]; decide)] at h2
      obtain ⟨rfl, hx2⟩ := h2
      have X2 := hide ((unhide X1).trans hx2)
      clear hx2 hw
      have X3 := hide (show Ext wc (w2.alloc (.cells #[.int .i64 0, .int .i64 0, .int .i32 0, .int .i32 0, .int .i32 0, .slice none 0 0] 44)) from (unhide X2).alloc _)
      have HWN := hide (Blk.new w2 #[.int .i64 0, .int .i64 0, .int .i32 0, .int .i32 0, .int .i32 0, .slice none 0 0] 44)
      obtain ⟨g0, g1, g2, g3, g4, g5⟩ := ((unhide HB).1.ext (unhide X3)).six
      obtain ⟨p0, p1, p2, p3, p4, p5⟩ := ((unhide HB).2.1.ext (unhide X3)).six
      go_wp2_with fail
      refine (unhide HDI _).mono ?_
      rintro e w4 ⟨rfl, hx4⟩
      have X4 := hide ((unhide X3).trans hx4)
      have HW4 := hide ((unhide HWN).ext hx4)
      clear hx4
      go_upto_region 5 with fail
      have kv0 : ∀ wy, Ext w4 wy → wy.cell? ⟨w.heap.size, 0, none⟩ = some (.int .i64 (Vw.X v)) := fun wy hy => ((unhide HB).1.ext ((unhide X4).trans hy)).six.1
      have kv1 : ∀ wy, Ext w4 wy → wy.cell? ⟨w.heap.size, 1, none⟩ = some (.int .i64 (Vw.Y v)) := fun wy hy => ((unhide HB).1.ext ((unhide X4).trans hy)).six.2.1
      have kv2 : ∀ wy, Ext w4 wy → wy.cell? ⟨w.heap.size, 2, none⟩ = some (.int .i64 (Vw.W v)) := fun wy hy => ((unhide HB).1.ext ((unhide X4).trans hy)).six.2.2.1
      have kv3 : ∀ wy, Ext w4 wy → wy.cell? ⟨w.heap.size, 3, none⟩ = some (.int .i64 (Vw.H v)) := fun wy hy => ((unhide HB).1.ext ((unhide X4).trans hy)).six.2.2.2.1
      have kv4 : ∀ wy, Ext w4 wy → wy.cell? ⟨w.heap.size, 4, none⟩ = some (.int .i32 (Vw.Nr v)) := fun wy hy => ((unhide HB).1.ext ((unhide X4).trans hy)).six.2.2.2.2.1
      have kv5 : ∀ wy, Ext w4 wy → wy.cell? ⟨w.heap.size, 5, none⟩ = some (.int .i32 (Vw.Fr v)) := fun wy hy => ((unhide HB).1.ext ((unhide X4).trans hy)).six.2.2.2.2.2
      have D4 := hide (show Ext w4 w4.drew from (Ext.refl w4).drew)
      go_cut [29] (fun q wz => ∃ w5, w5 = wz ∧ q = .bool false ∧ Ext w4 w5)
      case first =>
        go_region_held3 (fun wy => Ext w4 wy)
          (first | with_reducible exact unhide D4 | with_reducible exact unhide D6 | with_reducible exact unhide D5)
          (first
            | (go_at_call 25; refine (unhide HL1 _).mono ?_; rintro e w5 ⟨rfl, hx5⟩; have D5 := hide ((unhide D4).trans hx5); clear hx5)
            | (go_at_call 11; refine (unhide HL2 _).mono ?_; rintro e w6 ⟨rfl, hx6⟩; have D6 := hide ((unhide D5).trans hx6); clear hx6))
        all_goals go_wp2
        all_goals go_meet
        all_goals exact ⟨_, rfl, by first | rfl | simp, unhide D6⟩
      case rest =>
      obtain ⟨w5, rfl, rfl, hx5⟩ := hcut
      have X5 := hide ((unhide X4).trans hx5)
      have D45 := hide hx5
      clear hx5 kv0 kv1 kv2 kv3 kv4 kv5 D4 g0 g1 g2 g3 g4 g5 p0 p1 p2 p3 p4 p5
      obtain ⟨g0, g1, g2, g3, g4, g5⟩ := ((unhide HB).1.ext (unhide X5)).six
      obtain ⟨p0, p1, p2, p3, p4, p5⟩ := ((unhide HB).2.1.ext (unhide X5)).six
      by_cases hn : 0 ≤ n ∧ n ≤ 6
      · obtain ⟨n1, n2, n3⟩ := nOk hn
        have HRD2 := hide (fun wx => unhide HRD wx hn)
        have D57 := hide (Ext.refl w5)
        rw [n1]
        generalize clD x.p n = dd at *
        clear hn n1 HRD
        go_wp2_with (first
          | (go_at_call 23; refine (unhide HRD2 _).mono ?_; rintro e w7 ⟨rfl, hx7⟩; have D7 := hide ((unhide D57).trans hx7); clear hx7; obtain ⟨g0, g1, g2, g3, g4, g5⟩ := ((unhide HB).1.ext ((unhide X5).trans (unhide D7))).six; obtain ⟨p0, p1, p2, p3, p4, p5⟩ := ((unhide HB).2.1.ext ((unhide X5).trans (unhide D7))).six)
          | (go_at_call 11; refine (unhide HL2 _).mono ?_; rintro e w8 ⟨rfl, hx8⟩; have D8 := hide ((unhide D7).trans hx8); clear hx8; obtain ⟨g0, g1, g2, g3, g4, g5⟩ := ((unhide HB).1.ext ((unhide X5).trans (unhide D8))).six; obtain ⟨p0, p1, p2, p3, p4, p5⟩ := ((unhide HB).2.1.ext ((unhide X5).trans (unhide D8))).six; have hz8 := (unhide HW4).ext ((unhide D45).trans (unhide D8)); obtain ⟨z0, z1, z2, z3, z4, z5⟩ := hz8.six; clear hz8)
          | (go_at_call 26; refine (sameWin_any zWn (.slice none 0 0) (.slice none 0 0) [] _ (vq_nil _) (vq_nil _) (by simp)).mono ?_; rintro e w9 ⟨rfl, hx9⟩; have X9 := hide (((unhide X5).trans (unhide D8)).trans hx9); clear hx9))
        go_ret
        exact ⟨by first | rfl | simp, (unhide HB).2.2.trans (unhide X9)⟩
      · obtain ⟨n1, n2, n3⟩ := nBad (p := x.p) hn
        have D7 := hide (Ext.refl w5)
        rw [n1, n2]
        clear hn n1 n2 HRD
        rcases n3 with n3 | ⟨n3, n4⟩
        · go_wp2_with (first
            | (go_at_call 11; refine (unhide HL2 _).mono ?_; rintro e w8 ⟨rfl, hx8⟩; have D8 := hide ((unhide D7).trans hx8); clear hx8; obtain ⟨g0, g1, g2, g3, g4, g5⟩ := ((unhide HB).1.ext ((unhide X5).trans (unhide D8))).six; obtain ⟨p0, p1, p2, p3, p4, p5⟩ := ((unhide HB).2.1.ext ((unhide X5).trans (unhide D8))).six; have hz8 := (unhide HW4).ext ((unhide D45).trans (unhide D8)); obtain ⟨z0, z1, z2, z3, z4, z5⟩ := hz8.six; clear hz8)
            | (go_at_call 26; refine (sameWin_any zWn (.slice none 0 0) (.slice none 0 0) [] _ (vq_nil _) (vq_nil _) (by simp)).mono ?_; rintro e w9 ⟨rfl, hx9⟩; have X9 := hide (((unhide X5).trans (unhide D8)).trans hx9); clear hx9))
          go_ret
          exact ⟨by first | rfl | simp, (unhide HB).2.2.trans (unhide X9)⟩
        · go_wp2_with (first
            | (go_at_call 11; refine (unhide HL2 _).mono ?_; rintro e w8 ⟨rfl, hx8⟩; have D8 := hide ((unhide D7).trans hx8); clear hx8; obtain ⟨g0, g1, g2, g3, g4, g5⟩ := ((unhide HB).1.ext ((unhide X5).trans (unhide D8))).six; obtain ⟨p0, p1, p2, p3, p4, p5⟩ := ((unhide HB).2.1.ext ((unhide X5).trans (unhide D8))).six; have hz8 := (unhide HW4).ext ((unhide D45).trans (unhide D8)); obtain ⟨z0, z1, z2, z3, z4, z5⟩ := hz8.six; clear hz8)
            | (go_at_call 26; refine (sameWin_any zWn (.slice none 0 0) (.slice none 0 0) [] _ (vq_nil _) (vq_nil _) (by simp)).mono ?_; rintro e w9 ⟨rfl, hx9⟩; have X9 := hide (((unhide X5).trans (unhide D8)).trans hx9); clear hx9))
          go_ret
          exact ⟨by first | rfl | simp, (unhide HB).2.2.trans (unhide X9)⟩
    | true =>
      have hwk := unhide HOK
      rw [hw, k1] at hwk
      simp only [Bool.true_and] at hwk
      by_cases k2 : 1 ≤ x.p 3
      · have b1 : decide (x.p 3 < 1) = false := by simp; omega
        have b2 : decide ((4 : Int) < (m : Int)) = true := by
          simp [k2] at hwk
          simp
          omega
        clear hwk k2
        have HL1 := hide (fun wx => rightC_any v wx)
        have HL2 := hide (fun wx => refRight21_any v wx)
        rw [k1] at HL1 HL2
        clear HOK HRW HM
        go_enter Try.func6, Try.ntmps6
        go_wp2_with fail
        refine (wakes21_any _).mono ?_
        rintro e w1 ⟨rfl, hx1⟩
        rw [← hwc] at hx1
        have X1 := hide hx1
        clear hx1 hwc
        obtain ⟨g0, g1, g2, g3, g4, g5⟩ := ((unhide HB).1.ext (unhide X1)).six
        obtain ⟨p0, p1, p2, p3, p4, p5⟩ := ((unhide HB).2.1.ext (unhide X1)).six
        go_wp2_with fail
        refine (unhide HWI _ (unhide X1)).mono ?_
        intro e w2 h2
        unfold WdQ at h2
        rw [if_neg (by rw [hw]; decide)] at h2
        obtain ⟨rfl, hx2⟩ := h2
        have X2 := hide ((unhide X1).trans hx2)
        clear hx2 hw
        have X3 := hide (show Ext wc (w2.alloc (.cells #[.int .i64 0, .int .i64 0, .int .i32 0, .int .i32 0, .int .i32 0, .slice none 0 0] 44)) from (unhide X2).alloc _)
        have HWN := hide (Blk.new w2 #[.int .i64 0, .int .i64 0, .int .i32 0, .int .i32 0, .int .i32 0, .slice none 0 0] 44)
        obtain ⟨g0, g1, g2, g3, g4, g5⟩ := ((unhide HB).1.ext (unhide X3)).six
        obtain ⟨p0, p1, p2, p3, p4, p5⟩ := ((unhide HB).2.1.ext (unhide X3)).six
        go_wp2_with fail
        refine (unhide HDI _).mono ?_
        rintro e w4 ⟨rfl, hx4⟩
        have X4 := hide ((unhide X3).trans hx4)
        have HW4 := hide ((unhide HWN).ext hx4)
        clear hx4
        go_upto_region 5 with fail
        have kv0 : ∀ wy, Ext w4 wy → wy.cell? ⟨w.heap.size, 0, none⟩ = some (.int .i64 (Vw.X v)) := fun wy hy => ((unhide HB).1.ext ((unhide X4).trans hy)).six.1
        have kv1 : ∀ wy, Ext w4 wy → wy.cell? ⟨w.heap.size, 1, none⟩ = some (.int .i64 (Vw.Y v)) := fun wy hy => ((unhide HB).1.ext ((unhide X4).trans hy)).six.2.1
        have kv2 : ∀ wy, Ext w4 wy → wy.cell? ⟨w.heap.size, 2, none⟩ = some (.int .i64 (Vw.W v)) := fun wy hy => ((unhide HB).1.ext ((unhide X4).trans hy)).six.2.2.1
        have kv3 : ∀ wy, Ext w4 wy → wy.cell? ⟨w.heap.size, 3, none⟩ = some (.int .i64 (Vw.H v)) := fun wy hy => ((unhide HB).1.ext ((unhide X4).trans hy)).six.2.2.2.1
        have kv4 : ∀ wy, Ext w4 wy → wy.cell? ⟨w.heap.size, 4, none⟩ = some (.int .i32 (Vw.Nr v)) := fun wy hy => ((unhide HB).1.ext ((unhide X4).trans hy)).six.2.2.2.2.1
        have kv5 : ∀ wy, Ext w4 wy → wy.cell? ⟨w.heap.size, 5, none⟩ = some (.int .i32 (Vw.Fr v)) := fun wy hy => ((unhide HB).1.ext ((unhide X4).trans hy)).six.2.2.2.2.2
        have D4 := hide (show Ext w4 w4.drew from (Ext.refl w4).drew)
        go_cut [29] (fun q wz => ∃ w5, w5 = wz ∧ q = .bool false ∧ Ext w4 w5)
        case first =>
          go_region_held3 (fun wy => Ext w4 wy)
            (first | with_reducible exact unhide D4 | with_reducible exact unhide D6 | with_reducible exact unhide D5)
            (first
              | (go_at_call 25; refine (unhide HL1 _).mono ?_; rintro e w5 ⟨rfl, hx5⟩; have D5 := hide ((unhide D4).trans hx5); clear hx5)
              | (go_at_call 11; refine (unhide HL2 _).mono ?_; rintro e w6 ⟨rfl, hx6⟩; have D6 := hide ((unhide D5).trans hx6); clear hx6))
          all_goals go_wp2
          all_goals go_meet
          all_goals exact ⟨_, rfl, by first | rfl | simp, unhide D6⟩
        case rest =>
        obtain ⟨w5, rfl, rfl, hx5⟩ := hcut
        have X5 := hide ((unhide X4).trans hx5)
        have D45 := hide hx5
        clear hx5 kv0 kv1 kv2 kv3 kv4 kv5 D4 g0 g1 g2 g3 g4 g5 p0 p1 p2 p3 p4 p5
        obtain ⟨g0, g1, g2, g3, g4, g5⟩ := ((unhide HB).1.ext (unhide X5)).six
        obtain ⟨p0, p1, p2, p3, p4, p5⟩ := ((unhide HB).2.1.ext (unhide X5)).six
        by_cases hn : 0 ≤ n ∧ n ≤ 6
        · obtain ⟨n1, n2, n3⟩ := nOk hn
          have HRD2 := hide (fun wx => unhide HRD wx hn)
          have D57 := hide (Ext.refl w5)
          rw [n1]
          generalize clD x.p n = dd at *
          clear hn n1 HRD
          go_wp2_with (first
            | (go_at_call 23; refine (unhide HRD2 _).mono ?_; rintro e w7 ⟨rfl, hx7⟩; have D7 := hide ((unhide D57).trans hx7); clear hx7; obtain ⟨g0, g1, g2, g3, g4, g5⟩ := ((unhide HB).1.ext ((unhide X5).trans (unhide D7))).six; obtain ⟨p0, p1, p2, p3, p4, p5⟩ := ((unhide HB).2.1.ext ((unhide X5).trans (unhide D7))).six)
            | (go_at_call 11; refine (unhide HL2 _).mono ?_; rintro e w8 ⟨rfl, hx8⟩; have D8 := hide ((unhide D7).trans hx8); clear hx8; obtain ⟨g0, g1, g2, g3, g4, g5⟩ := ((unhide HB).1.ext ((unhide X5).trans (unhide D8))).six; obtain ⟨p0, p1, p2, p3, p4, p5⟩ := ((unhide HB).2.1.ext ((unhide X5).trans (unhide D8))).six; have hz8 := (unhide HW4).ext ((unhide D45).trans (unhide D8)); obtain ⟨z0, z1, z2, z3, z4, z5⟩ := hz8.six; clear hz8)
            | (go_at_call 26; refine (sameWin_any zWn (.slice none 0 0) (.slice none 0 0) [] _ (vq_nil _) (vq_nil _) (by simp)).mono ?_; rintro e w9 ⟨rfl, hx9⟩; have X9 := hide (((unhide X5).trans (unhide D8)).trans hx9); clear hx9))
          go_ret
          exact ⟨by first | rfl | simp, (unhide HB).2.2.trans (unhide X9)⟩
        · obtain ⟨n1, n2, n3⟩ := nBad (p := x.p) hn
          have D7 := hide (Ext.refl w5)
          rw [n1, n2]
          clear hn n1 n2 HRD
          rcases n3 with n3 | ⟨n3, n4⟩
          · go_wp2_with (first
              | (go_at_call 11; refine (unhide HL2 _).mono ?_; rintro e w8 ⟨rfl, hx8⟩; have D8 := hide ((unhide D7).trans hx8); clear hx8; obtain ⟨g0, g1, g2, g3, g4, g5⟩ := ((unhide HB).1.ext ((unhide X5).trans (unhide D8))).six; obtain ⟨p0, p1, p2, p3, p4, p5⟩ := ((unhide HB).2.1.ext ((unhide X5).trans (unhide D8))).six; have hz8 := (unhide HW4).ext ((unhide D45).trans (unhide D8)); obtain ⟨z0, z1, z2, z3, z4, z5⟩ := hz8.six; clear hz8)
              | (go_at_call 26; refine (sameWin_any zWn (.slice none 0 0) (.slice none 0 0) [] _ (vq_nil _) (vq_nil _) (by simp)).mono ?_; rintro e w9 ⟨rfl, hx9⟩; have X9 := hide (((unhide X5).trans (unhide D8)).trans hx9); clear hx9))
            go_ret
            exact ⟨by first | rfl | simp, (unhide HB).2.2.trans (unhide X9)⟩
          · go_wp2_with (first
              | (go_at_call 11; refine (unhide HL2 _).mono ?_; rintro e w8 ⟨rfl, hx8⟩; have D8 := hide ((unhide D7).trans hx8); clear hx8; obtain ⟨g0, g1, g2, g3, g4, g5⟩ := ((unhide HB).1.ext ((unhide X5).trans (unhide D8))).six; obtain ⟨p0, p1, p2, p3, p4, p5⟩ := ((unhide HB).2.1.ext ((unhide X5).trans (unhide D8))).six; have hz8 := (unhide HW4).ext ((unhide D45).trans (unhide D8)); obtain ⟨z0, z1, z2, z3, z4, z5⟩ := hz8.six; clear hz8)
              | (go_at_call 26; refine (sameWin_any zWn (.slice none 0 0) (.slice none 0 0) [] _ (vq_nil _) (vq_nil _) (by simp)).mono ?_; rintro e w9 ⟨rfl, hx9⟩; have X9 := hide (((unhide X5).trans (unhide D8)).trans hx9); clear hx9))
            go_ret
            exact ⟨by first | rfl | simp, (unhide HB).2.2.trans (unhide X9)⟩
      · have b1 : decide (x.p 3 < 1) = true := by simp; omega
        clear hwk k2
        have HL1 := hide (fun wx => rightC_any v wx)
        have HL2 := hide (fun wx => refRight21_any v wx)
        rw [k1] at HL1 HL2
        clear HOK HRW HM
        go_enter Try.func6, Try.ntmps6
        go_wp2_with fail
        refine (wakes21_any _).mono ?_
        rintro e w1 ⟨rfl, hx1⟩
        rw [← hwc] at hx1
        have X1 := hide hx1
        clear hx1 hwc
        obtain ⟨g0, g1, g2, g3, g4, g5⟩ := ((unhide HB).1.ext (unhide X1)).six
        obtain ⟨p0, p1, p2, p3, p4, p5⟩ := ((unhide HB).2.1.ext (unhide X1)).six
        go_wp2_with fail
        refine (unhide HWI _ (unhide X1)).mono ?_
        intro e w2 h2
        unfold WdQ at h2
        rw [if_neg (by rw [hw]; decide)] at h2
        obtain ⟨rfl, hx2⟩ := h2
        have X2 := hide ((unhide X1).trans hx2)
        clear hx2 hw
        have X3 := hide (show Ext wc (w2.alloc (.cells #[.int .i64 0, .int .i64 0, .int .i32 0, .int .i32 0, .int .i32 0, .slice none 0 0] 44)) from (unhide X2).alloc _)
        have HWN := hide (Blk.new w2 #[.int .i64 0, .int .i64 0, .int .i32 0, .int .i32 0, .int .i32 0, .slice none 0 0] 44)
        obtain ⟨g0, g1, g2, g3, g4, g5⟩ := ((unhide HB).1.ext (unhide X3)).six
        obtain ⟨p0, p1, p2, p3, p4, p5⟩ := ((unhide HB).2.1.ext (unhide X3)).six
        go_wp2_with fail
        refine (unhide HDI _).mono ?_
        rintro e w4 ⟨rfl, hx4⟩
        have X4 := hide ((unhide X3).trans hx4)
        have HW4 := hide ((unhide HWN).ext hx4)
        clear hx4
        go_upto_region 5 with fail
        have kv0 : ∀ wy, Ext w4 wy → wy.cell? ⟨w.heap.size, 0, none⟩ = some (.int .i64 (Vw.X v)) := fun wy hy => ((unhide HB).1.ext ((unhide X4).trans hy)).six.1
        have kv1 : ∀ wy, Ext w4 wy → wy.cell? ⟨w.heap.size, 1, none⟩ = some (.int .i64 (Vw.Y v)) := fun wy hy => ((unhide HB).1.ext ((unhide X4).trans hy)).six.2.1
        have kv2 : ∀ wy, Ext w4 wy → wy.cell? ⟨w.heap.size, 2, none⟩ = some (.int .i64 (Vw.W v)) := fun wy hy => ((unhide HB).1.ext ((unhide X4).trans hy)).six.2.2.1
        have kv3 : ∀ wy, Ext w4 wy → wy.cell? ⟨w.heap.size, 3, none⟩ = some (.int .i64 (Vw.H v)) := fun wy hy => ((unhide HB).1.ext ((unhide X4).trans hy)).six.2.2.2.1
        have kv4 : ∀ wy, Ext w4 wy → wy.cell? ⟨w.heap.size, 4, none⟩ = some (.int .i32 (Vw.Nr v)) := fun wy hy => ((unhide HB).1.ext ((unhide X4).trans hy)).six.2.2.2.2.1
        have kv5 : ∀ wy, Ext w4 wy → wy.cell? ⟨w.heap.size, 5, none⟩ = some (.int .i32 (Vw.Fr v)) := fun wy hy => ((unhide HB).1.ext ((unhide X4).trans hy)).six.2.2.2.2.2
        have D4 := hide (show Ext w4 w4.drew from (Ext.refl w4).drew)
        go_cut [29] (fun q wz => ∃ w5, w5 = wz ∧ q = .bool false ∧ Ext w4 w5)
        case first =>
          go_region_held3 (fun wy => Ext w4 wy)
            (first | with_reducible exact unhide D4 | with_reducible exact unhide D6 | with_reducible exact unhide D5)
            (first
              | (go_at_call 25; refine (unhide HL1 _).mono ?_; rintro e w5 ⟨rfl, hx5⟩; have D5 := hide ((unhide D4).trans hx5); clear hx5)
              | (go_at_call 11; refine (unhide HL2 _).mono ?_; rintro e w6 ⟨rfl, hx6⟩; have D6 := hide ((unhide D5).trans hx6); clear hx6))
          all_goals go_wp2
          all_goals go_meet
          all_goals exact ⟨_, rfl, by first | rfl | simp, unhide D6⟩
        case rest =>
        obtain ⟨w5, rfl, rfl, hx5⟩ := hcut
        have X5 := hide ((unhide X4).trans hx5)
        have D45 := hide hx5
        clear hx5 kv0 kv1 kv2 kv3 kv4 kv5 D4 g0 g1 g2 g3 g4 g5 p0 p1 p2 p3 p4 p5
        obtain ⟨g0, g1, g2, g3, g4, g5⟩ := ((unhide HB).1.ext (unhide X5)).six
        obtain ⟨p0, p1, p2, p3, p4, p5⟩ := ((unhide HB).2.1.ext (unhide X5)).six
        by_cases hn : 0 ≤ n ∧ n ≤ 6
        · obtain ⟨n1, n2, n3⟩ := nOk hn
          have HRD2 := hide (fun wx => unhide HRD wx hn)
          have D57 := hide (Ext.refl w5)
          rw [n1]
          generalize clD x.p n = dd at *
          clear hn n1 HRD
          go_wp2_with (first
            | (go_at_call 23; refine (unhide HRD2 _).mono ?_; rintro e w7 ⟨rfl, hx7⟩; have D7 := hide ((unhide D57).trans hx7); clear hx7; obtain ⟨g0, g1, g2, g3, g4, g5⟩ := ((unhide HB).1.ext ((unhide X5).trans (unhide D7))).six; obtain ⟨p0, p1, p2, p3, p4, p5⟩ := ((unhide HB).2.1.ext ((unhide X5).trans (unhide D7))).six)
            | (go_at_call 11; refine (unhide HL2 _).mono ?_; rintro e w8 ⟨rfl, hx8⟩; have D8 := hide ((unhide D7).trans hx8); clear hx8; obtain ⟨g0, g1, g2, g3, g4, g5⟩ := ((unhide HB).1.ext ((unhide X5).trans (unhide D8))).six; obtain ⟨p0, p1, p2, p3, p4, p5⟩ := ((unhide HB).2.1.ext ((unhide X5).trans (unhide D8))).six; have hz8 := (unhide HW4).ext ((unhide D45).trans (unhide D8)); obtain ⟨z0, z1, z2, z3, z4, z5⟩ := hz8.six; clear hz8)
            | (go_at_call 26; refine (sameWin_any zWn (.slice none 0 0) (.slice none 0 0) [] _ (vq_nil _) (vq_nil _) (by simp)).mono ?_; rintro e w9 ⟨rfl, hx9⟩; have X9 := hide (((unhide X5).trans (unhide D8)).trans hx9); clear hx9))
          go_ret
          exact ⟨by first | rfl | simp, (unhide HB).2.2.trans (unhide X9)⟩
        · obtain ⟨n1, n2, n3⟩ := nBad (p := x.p) hn
          have D7 := hide (Ext.refl w5)
          rw [n1, n2]
          clear hn n1 n2 HRD
          rcases n3 with n3 | ⟨n3, n4⟩
          · go_wp2_with (first
              | (go_at_call 11; refine (unhide HL2 _).mono ?_; rintro e w8 ⟨rfl, hx8⟩; have D8 := hide ((unhide D7).trans hx8); clear hx8; obtain ⟨g0, g1, g2, g3, g4, g5⟩ := ((unhide HB).1.ext ((unhide X5).trans (unhide D8))).six; obtain ⟨p0, p1, p2, p3, p4, p5⟩ := ((unhide HB).2.1.ext ((unhide X5).trans (unhide D8))).six; have hz8 := (unhide HW4).ext ((unhide D45).trans (unhide D8)); obtain ⟨z0, z1, z2, z3, z4, z5⟩ := hz8.six; clear hz8)
              | (go_at_call 26; refine (sameWin_any zWn (.slice none 0 0) (.slice none 0 0) [] _ (vq_nil _) (vq_nil _) (by simp)).mono ?_; rintro e w9 ⟨rfl, hx9⟩; have X9 := hide (((unhide X5).trans (unhide D8)).trans hx9); clear hx9))
            go_ret
            exact ⟨by first | rfl | simp, (unhide HB).2.2.trans (unhide X9)⟩
          · go_wp2_with (first
              | (go_at_call 11; refine (unhide HL2 _).mono ?_; rintro e w8 ⟨rfl, hx8⟩; have D8 := hide ((unhide D7).trans hx8); clear hx8; obtain ⟨g0, g1, g2, g3, g4, g5⟩ := ((unhide HB).1.ext ((unhide X5).trans (unhide D8))).six; obtain ⟨p0, p1, p2, p3, p4, p5⟩ := ((unhide HB).2.1.ext ((unhide X5).trans (unhide D8))).six; have hz8 := (unhide HW4).ext ((unhide D45).trans (unhide D8)); obtain ⟨z0, z1, z2, z3, z4, z5⟩ := hz8.six; clear hz8)
              | (go_at_call 26; refine (sameWin_any zWn (.slice none 0 0) (.slice none 0 0) [] _ (vq_nil _) (vq_nil _) (by simp)).mono ?_; rintro e w9 ⟨rfl, hx9⟩; have X9 := hide (((unhide X5).trans (unhide D8)).trans hx9); clear hx9))
            go_ret
            exact ⟨by first | rfl | simp, (unhide HB).2.2.trans (unhide X9)⟩

set_option maxRecDepth 10000
theorem cwin_owes (H : Type) (enc : TypeId × Value → H) (W : World) (base : Nat) (args : Array Value) (ds : List (DataW H)) (p : List MemPlace) : Owes H enc Try.prog 6 Try.f6 Rows.clipWindowsSpec W base args ds p := by
  intro hval hA hsz
  rw [Try.params6] at hA hval hsz
  obtain ⟨v0, vs0, d0, ds0, p0, q0, hargs, rfl, rfl, h0, r0⟩ := trodAll_cons hA
  obtain ⟨v1, vs1, d1, ds1, p1, q1, rfl, rfl, rfl, h1, r1⟩ := trodAll_cons r0
  obtain ⟨v2, vs2, d2, ds2, p2, q2, rfl, rfl, rfl, h2, r2⟩ := trodAll_cons r1
  obtain ⟨rfl, rfl, rfl⟩ := trodAll_nil r2
  obtain rfl : args = #[v0, v1, v2] := by cases args; simp_all
  obtain ⟨v, rfl⟩ := open_view (hval 0 24 v0 rfl rfl) h0
  obtain ⟨x, u, rfl, hq, hI⟩ := open_vert (hval 1 29 v1 rfl rfl) h1
  obtain ⟨n, rfl, rfl, rfl, wn⟩ := open_int Try.underlying3 (hval 2 3 v2 rfl rfl) h2
  exact ⟨⟨rfl, rfl, rfl⟩, cwin_walk v x u n W hq hI⟩

set_option maxRecDepth 100000 in
theorem cwin_lifted (os : Os) (started : os.Started) (H : Type) (enc : TypeId × Value → H) :
    ReturnsInHanded {} Try.checked os 6 .any (Rows.clipWindowsSpec.pre6 enc Try.prog Try.f6 [] false) (Rows.clipWindowsSpec.post enc Try.prog Try.f6 false true false false) :=
  lift_law (C := Try.checked) own laidOut started (by kernel_rfl) Try.func6 (T := 4) rfl Try.underlying4 rfl (by kernel_rfl)
    (ChangeSpec.witness6 (enc := enc) (C := Try.checked) false ⟨#[], #[.agg #[.int .i64 0, .int .i64 0, .int .i64 0, .int .i64 0, .int .i32 0, .int .i32 0], .agg #[.int .i32 0, .int .i32 0, .int .i32 0, .int .i32 0, .int .i32 0, .slice none 0 0], .int .i64 0], []⟩ 8 (by kernel_rfl) (by kernel_rfl) (by kernel_rfl) (by kernel_rfl)) (cwin_owes H enc)

theorem clipWindows_holds : Rows.ClipWindowsSaid :=
  OpenClaim.holds_of_wide 6 Try.f6 rfl rfl rfl rfl rfl rfl rfl ⟨rfl, rfl, rfl, rfl, rfl⟩ rfl rfl rfl rfl rfl (by kernel_rfl) Try.func6 (by kernel_rfl)
    (of_decide_eq_true (by kernel_rfl)) (by unfold Func.isWrapper; rw [if_neg (of_decide_eq_false (by kernel_rfl))]; exact ⟨rfl, rfl⟩)
    (fun os started H enc _ => cwin_lifted os started H enc)
#print axioms clipWindows_holds
end Go.Proofs.Ytbhdloanlagddaa
