/-
  Proved: ImageBack answers true for every image and piece and turns nothing that was there.
-/
import Derived.Test.YtpjapdifmfpcnaaJK
namespace Go.Proofs.Ytpjapdifmfpcnaa
open Go.ChangeShapes Go.WideShapes Go.ChangeAt Go.RowKit
set_option linter.unusedVariables false
set_option linter.unusedSimpArgs false

theorem ok_bys {I : Img} (h : okB (sizI I.f) I = true) : ∀ l ∈ I.L, l.2.2.length ≤ 20000 := fun l hl => by
  have h1 := (okB_iff.1 h).2.2.1 l hl
  unfold lvB at h1
  rw [Bool.or_eq_true] at h1
  rcases h1 with h1 | h1
  · have := (noneB_iff.1 h1).2.2
    omega
  · obtain ⟨a, b, c⟩ := goodB_iff.1 h1
    have := mul_side a b (siz_bd I.f)
    omega

set_option maxRecDepth 10000 in
set_option maxHeartbeats 2000000 in
theorem back_walk {W : World} {I : Img} {v : Value} {L : List Ent} (hI : ImgIn W I v L) (lv PX PY pw ph : Int) (u : Value) (bs0 : List Int) (hq : Row .u8 W u bs0) (hqb : Byt bs0) (hql : bs0.length ≤ 140737488351232) :
    Calls Try.prog 5 #[.agg #[.int .i64 I.f, v, .int .i64 I.ws, .int .i64 I.wt, .int .i64 I.mn, .int .i64 I.mg], .agg #[.int .i64 lv, .int .i64 PX, .int .i64 PY, .int .i64 pw, .int .i64 ph, u]] W fun e w' => e = .returned (.bool true) ∧ Ext W w' := by
  obtain ⟨ao, cap, rfl, _⟩ := hI.lr.shape
  obtain ⟨bo, bcap, rfl, hbo, hbc, hbm⟩ := hq.shape
  have hbc2 : bcap ≤ 9223372036854775807 := by unfold maxLen at hbm; omega
  have hX0 := ((Ext.refl W).alloc (.cells #[.int .i64 I.f, .slice ao L.length cap, .int .i64 I.ws, .int .i64 I.wt, .int .i64 I.mn, .int .i64 I.mg] 24)).alloc (.cells #[.int .i64 lv, .int .i64 PX, .int .i64 PY, .int .i64 pw, .int .i64 ph, .slice bo bs0.length bcap] 29)
  have hB0 := (Blk.new W #[.int .i64 I.f, .slice ao L.length cap, .int .i64 I.ws, .int .i64 I.wt, .int .i64 I.mn, .int .i64 I.mg] 24).alloc (.cells #[.int .i64 lv, .int .i64 PX, .int .i64 PY, .int .i64 pw, .int .i64 ph, .slice bo bs0.length bcap] 29)
  have hP0 : Blk ((W.alloc (.cells #[.int .i64 I.f, .slice ao L.length cap, .int .i64 I.ws, .int .i64 I.wt, .int .i64 I.mn, .int .i64 I.mg] 24)).alloc (.cells #[.int .i64 lv, .int .i64 PX, .int .i64 PY, .int .i64 pw, .int .i64 ph, .slice bo bs0.length bcap] 29)) (W.heap.size + 1) #[.int .i64 lv, .int .i64 PX, .int .i64 PY, .int .i64 pw, .int .i64 ph, .slice bo bs0.length bcap] 29 := Blk.at (by simp)
  have H0 := hide (And.intro hX0 (And.intro hB0 hP0))
  have HI := hide hI
  have HQ := hide hq
  have HQB := hide hqb
  obtain ⟨m, hm⟩ : ∃ m : Nat, m = min bs0.length 20000 := ⟨_, rfl⟩
  have HM : Hid ((if (20000 : Int) < (bs0.length : Int) then (20000 : Int) else (bs0.length : Int)) = (m : Int)) := by
    show _ = _
    split <;> omega
  have hmL : m ≤ bs0.length := by omega
  have hm9 : m ≤ 20000 := by omega
  clear hI hX0 hB0 hP0 hq hqb hbo hbm hm
  go_enter Try.func5, Try.ntmps5
  go_wp2_with fail
  generalize (W.alloc (.cells #[.int .i64 I.f, .slice ao L.length cap, .int .i64 I.ws, .int .i64 I.wt, .int .i64 I.mn, .int .i64 I.mg] 24)).alloc (.cells #[.int .i64 lv, .int .i64 PX, .int .i64 PY, .int .i64 pw, .int .i64 ph, .slice bo bs0.length bcap] 29) = w0 at H0 ⊢
  refine (wakes_any _).mono ?_
  rintro e w1 ⟨rfl, hx1⟩
  have H1 := hide (And.intro ((unhide H0).1.trans hx1) (And.intro ((unhide H0).2.1.ext hx1) ((unhide H0).2.2.ext hx1)))
  clear H0 hx1
  obtain ⟨q0, q1, q2, q3, q4, q5⟩ := (unhide H1).2.1.six
  go_wp2_with fail
  refine (short_in (unhide HI) (unhide H1).1).mono ?_
  rintro e w2 ⟨ao2, cap2, LX, rfl, hlo2, hab2, hx2⟩
  have hB2 := (unhide H1).2.1.ext hx2
  have hX2 := (unhide H1).1.trans hx2
  have hP2 := (unhide H1).2.2.ext hx2
  clear q0 q1 q2 q3 q4 q5
  obtain ⟨q0, q1, q2, q3, q4, q5⟩ := hB2.six
  obtain ⟨f0, f1, f2, f3, f4, f5⟩ := hB2.frees
  have hM3 := mine_put (unhide HI) hB2 hlo2 hab2
  have hg3 := grown_put6 w2 W.heap.size (.int .i64 I.f) (.slice ao2 LX.length cap2) (.int .i64 I.ws) (.int .i64 I.wt) (.int .i64 I.mn) (.int .i64 I.mg)
  have hX3 : Ext W _ := below_grown hX2 hg3 hX2.size (Nat.le_refl _)
  have hP3 := hP2.grown hg3 (by omega)
  have H3 := hide (And.intro hM3 (And.intro hX3 hP3))
  clear H1 hlo2 hab2 hx2 hB2 hX2 hM3 hX3 hP2 hP3 hg3
  go_upto_region 4 with fail
  generalize (((((w2.setCell ⟨W.heap.size, 0, none⟩ (.int .i64 I.f)).setCell ⟨W.heap.size, 1, none⟩ (.slice ao2 LX.length cap2)).setCell ⟨W.heap.size, 2, none⟩ (.int .i64 I.ws)).setCell ⟨W.heap.size, 3, none⟩ (.int .i64 I.wt)).setCell ⟨W.heap.size, 4, none⟩ (.int .i64 I.mn)).setCell ⟨W.heap.size, 5, none⟩ (.int .i64 I.mg) = w3 at H3 ⊢
  have hby := short_byt (abs_byt fun p hp => ((unhide HI).all p hp).2.1)
  rw [← (unhide HI).abs] at hby
  have HBY : Hid (∀ p ∈ (shI I).L, Byt p.2.2) := hby
  clear q0 q1 q2 q3 q4 q5 f0 f1 f2 f3 f4 f5 HI hby
  generalize shI I = X at H3 HBY
  have hL9 := (unhide H3).1.len
  have hXl : X.L.length ≤ 9 := by rw [(unhide H3).1.abs, absL_len]; exact hL9
  have HBL : Hid (∀ p ∈ LX, p.2.2.2.length ≤ 140737488355328) := fun p hp => by have := (unhide H3).1.bys p hp; omega
  go_cut [20] (fun p wc => p = .int .i64 (m : Int) ∧ wc = w3.setCell ⟨W.heap.size + 1, 5, none⟩ (.slice bo m bcap))
  case first =>
    obtain ⟨q0, q1, q2, q3, q4, q5⟩ := (unhide H3).2.2.six
    have f1 := (unhide H3).2.2.free 5
    by_cases h9 : 20000 < bs0.length
    · have h9' : (20000 : Int) < (bs0.length : Int) := by omega
      have HM2 := unhide HM
      rw [if_pos h9'] at HM2
      obtain rfl : m = 20000 := by omega
      clear HM2
      go_wp2
      go_meet
      exact ⟨rfl, rfl⟩
    · have h9' : ¬ (20000 : Int) < (bs0.length : Int) := by omega
      have HM2 := unhide HM
      rw [if_neg h9'] at HM2
      obtain rfl : m = bs0.length := by omega
      clear HM2
      go_wp2
      go_meet
      exact ⟨rfl, rfl⟩
  case rest =>
  obtain ⟨rfl, rfl⟩ := hcut
  have hP6 : Blk (w3.setCell ⟨W.heap.size + 1, 5, none⟩ (.slice bo m bcap)) (W.heap.size + 1) #[.int .i64 lv, .int .i64 PX, .int .i64 PY, .int .i64 pw, .int .i64 ph, .slice bo m bcap] 29 := by
    have := (unhide H3).2.2.set 5 (.slice bo m bcap)
    simpa using this
  have hg6 := grownBy_set w3 (W.heap.size + 1) 5 (.slice bo m bcap)
  have hM6 : Mine (w3.setCell ⟨W.heap.size + 1, 5, none⟩ (.slice bo m bcap)) w1.heap.size W.heap.size X (.slice ao2 LX.length cap2) LX := by
    obtain ⟨a1, a2, a3, a4, a5, a6⟩ := (unhide H3).1
    exact ⟨a1.grown hg6 (by omega), a2.grown (unhide H3).2.2 ⟨by decide, by decide⟩ hg6, a3, a4, a5, a6⟩
  have hX6 : Ext W _ := below_grown (unhide H3).2.1 hg6 (unhide H3).2.1.size (by omega)
  obtain ⟨bs, hbs⟩ : ∃ bs, bs = bs0.take m := ⟨_, rfl⟩
  have hbl : bs.length = m := by rw [hbs]; simp; omega
  have hbR : Row .u8 W (.slice bo m bcap) bs := by rw [hbs]; exact (unhide HQ).upto m hmL
  have HBB : Hid (Byt bs) := by
    intro x hx
    rw [hbs] at hx
    exact unhide HQB x (List.mem_of_mem_take hx)
  clear hbs H3 HQ HQB HM
  subst hbl
  have HBR := hide hbR
  have H6 := hide (And.intro hM6 (And.intro hX6 hP6))
  clear hP6 hg6 hM6 hX6 hbR
  generalize w3.setCell ⟨W.heap.size + 1, 5, none⟩ (.slice bo bs.length bcap) = w6 at H6 ⊢
  obtain ⟨q0, q1, q2, q3, q4, q5⟩ := (unhide H6).1.blk.six
  obtain ⟨p0, p1, p2, p3, p4, p5⟩ := (unhide H6).2.2.six
  go_wp2_with fail
  refine (sub_all (I := X) (unhide H6).1.lo.lr (by omega) (unhide H6).1.abs (unhide HBL) lv PX PY pw ph bo bcap bs ((unhide HBR).ext (unhide H6).2.1)).mono ?_
  rintro e w7 ⟨ao7, cap7, LY, rfl, hlo7, hab7, hx7⟩
  clear q0 q1 q2 q3 q4 q5 p0 p1 p2 p3 p4 p5
  by_cases hE : subE X lv PX PY pw ph bs.length = 0
  case neg =>
    have d0 : (subE X lv PX PY pw ph bs.length != 0) = true := by simp [hE]
    have eS : sbI X lv PX PY pw ph bs = zimg := by unfold sbI; rw [if_neg hE]
    rw [eS] at hab7 ⊢
    have hl0 : LY = [] := by
      have := congrArg List.length hab7
      rw [absL_len] at this
      exact List.eq_nil_of_length_eq_zero this
    subst hl0
    have HX7 := hide ((unhide H6).2.1.trans hx7)
    clear hE eS hab7 hlo7 hx7
    generalize subE X lv PX PY pw ph bs.length = er at *
    go_wp2
    go_ret
    exact ⟨by simp, (unhide HX7).alloc _⟩
  case pos =>
  rw [hE]
  obtain ⟨b1, b2, b3, b4, b5, b6, b7, b8⟩ := back_facts (unhide H6).1.abs hE
  have hJl : LY.length ≤ 9 := by
    have h1 := congrArg List.length hab7
    have h2 : (sbI X lv PX PY pw ph bs).L.length = X.L.length := by
      unfold sbI
      rw [if_pos hE]
      simp
    rw [absL_len, h2] at h1
    omega
  generalize sbI X lv PX PY pw ph bs = J at *
  generalize hdd : getB X lv PX PY pw ph = dd at *
  have hokJ : okB (sizI J.f) J = true := by
    cases h9 : okB (sizI J.f) J with
    | true => rfl
    | false =>
      rw [chkE_no (by rw [h9]; simp)] at b4
      cases b4
  have HBLY : Hid (∀ p ∈ LY, p.2.2.2.length ≤ 20000) := fun p hp => ok_bys hokJ (absE p) (by rw [← hab7]; exact abs_mem hp)
  have HBLY2 : Hid (∀ p ∈ LY, p.2.2.2.length ≤ 140737488355328) := fun p hp => by have := (unhide HBLY) p hp; omega
  have HBF := hide (And.intro b1 (And.intro b2 (And.intro b3 (And.intro b4 (And.intro b5 (And.intro b6 (And.intro b7 (And.intro b8 hdd))))))))
  have hx8 := hx7.alloc (.cells #[.int .i64 J.f, .slice ao7 LY.length cap7, .int .i64 J.ws, .int .i64 J.wt, .int .i64 J.mn, .int .i64 J.mg] 24)
  have hx78 := (Ext.refl w7).alloc (.cells #[.int .i64 J.f, .slice ao7 LY.length cap7, .int .i64 J.ws, .int .i64 J.wt, .int .i64 J.mn, .int .i64 J.mg] 24)
  have H8 := hide (And.intro (hlo7.ext hx78) (And.intro hab7 (And.intro (Blk.new w7 #[.int .i64 J.f, .slice ao7 LY.length cap7, .int .i64 J.ws, .int .i64 J.wt, .int .i64 J.mn, .int .i64 J.mg] 24) (And.intro ((unhide H6).1.ext hx8) (And.intro ((unhide H6).2.2.ext hx8) ((unhide H6).2.1.trans hx8))))))
  clear hE b1 b2 b3 b4 b5 b6 b7 b8 hdd hokJ hx7 hx8 hx78 hlo7 hab7 H6
  obtain ⟨y0, y1, y2, y3, y4, y5⟩ := (unhide H8).2.2.1.six
  obtain ⟨p0, p1, p2, p3, p4, p5⟩ := (unhide H8).2.2.2.2.1.six
  go_wp2_with fail
  clear y0 y1 y2 y3 y4 y5 p0 p1 p2 p3 p4 p5
  generalize w7.alloc (.cells #[.int .i64 J.f, .slice ao7 LY.length cap7, .int .i64 J.ws, .int .i64 J.wt, .int .i64 J.mn, .int .i64 J.mg] 24) = w8 at H8 ⊢
  refine (get_all (I := J) (unhide H8).1.lr (by omega) (unhide H8).2.1.symm lv PX PY pw ph).mono ?_
  rintro e w9 ⟨ao9, cap9, rfl, ho9, hx9⟩
  rw [(unhide HBF).2.2.1] at ho9 ⊢
  rw [(unhide HBF).2.1]
  have H9 := hide (And.intro ((unhide H8).1.ext hx9) (And.intro (unhide H8).2.1 (And.intro ((unhide H8).2.2.1.ext hx9) (And.intro ((unhide H8).2.2.2.1.ext hx9) (And.intro ((unhide H8).2.2.2.2.1.ext hx9) ((unhide H8).2.2.2.2.2.trans hx9))))))
  have HEQ : Hid (∀ wx, Ext w9 wx → Calls Try.prog 12 #[.slice ao9 bs.length cap9, .slice bo bs.length bcap] wx fun e w' => e = .returned (.bool true) ∧ Ext wx w') := fun wx hx => by
    refine (equal_any ao9 bo cap9 bcap bs bs wx (ho9.row.ext hx) ((unhide HBR).ext ((unhide H9).2.2.2.2.2.trans hx)) (unhide HBB) (unhide HBB)).mono ?_
    rintro e w' ⟨rfl, rfl⟩
    exact ⟨by simp, Ext.refl _⟩
  have HCH : Hid (∀ wx, Ext w9 wx → Calls Try.prog 18 #[.agg #[.int .i64 J.f, .slice ao7 LY.length cap7, .int .i64 J.ws, .int .i64 J.wt, .int .i64 J.mn, .int .i64 J.mg]] wx fun e w' => e = .returned (.int .i64 0) ∧ Ext wx w') := fun wx hx => by
    refine (check_any (I := J) ((unhide H9).1.lr.ext hx) (by omega) (unhide H9).2.1.symm).mono ?_
    rintro e w' ⟨rfl, h⟩
    exact ⟨by rw [(unhide HBF).2.2.2.1], h⟩
  have HC1 : Hid (∀ wx, Ext w9 wx → Calls Try.prog 19 #[.agg #[.int .i64 J.f, .slice ao7 LY.length cap7, .int .i64 J.ws, .int .i64 J.wt, .int .i64 J.mn, .int .i64 J.mg]] wx fun e w' => e = .returned (.int .i64 (costI X)) ∧ Ext wx w') := fun wx hx => by
    refine (cost_any (I := J) ((unhide H9).1.lr.ext hx) (by omega) (unhide H9).2.1.symm (unhide HBLY)).mono ?_
    rintro e w' ⟨rfl, h⟩
    exact ⟨by rw [(unhide HBF).2.2.2.2.1], h⟩
  have HC2 : Hid (∀ wx, Ext w9 wx → Calls Try.prog 19 #[.agg #[.int .i64 X.f, .slice ao2 LX.length cap2, .int .i64 X.ws, .int .i64 X.wt, .int .i64 X.mn, .int .i64 X.mg]] wx fun e w' => e = .returned (.int .i64 (costI X)) ∧ Ext wx w') := fun wx hx => by
    refine (cost_any (I := X) ((unhide H9).2.2.2.1.lo.lr.ext hx) (by omega) (unhide H9).2.2.2.1.abs (unhide H9).2.2.2.1.bys).mono ?_
    rintro e w' ⟨rfl, h⟩
    exact ⟨rfl, h⟩
  have HK1 : Hid (∀ wx, Ext w9 wx → Calls Try.prog 20 #[.agg #[.int .i64 J.f, .slice ao7 LY.length cap7, .int .i64 J.ws, .int .i64 J.wt, .int .i64 J.mn, .int .i64 J.mg]] wx fun e w' => e = .returned (.bool (cmpB X)) ∧ Ext wx w') := fun wx hx => by
    refine (complete_any (I := J) ((unhide H9).1.lr.ext hx) (by omega) (unhide H9).2.1.symm).mono ?_
    rintro e w' ⟨rfl, h⟩
    exact ⟨by rw [(unhide HBF).2.2.2.2.2.1], h⟩
  have HK2 : Hid (∀ wx, Ext w9 wx → Calls Try.prog 20 #[.agg #[.int .i64 X.f, .slice ao2 LX.length cap2, .int .i64 X.ws, .int .i64 X.wt, .int .i64 X.mn, .int .i64 X.mg]] wx fun e w' => e = .returned (.bool (cmpB X)) ∧ Ext wx w') := fun wx hx => by
    refine (complete_any (I := X) ((unhide H9).2.2.2.1.lo.lr.ext hx) (by omega) (unhide H9).2.2.2.1.abs).mono ?_
    rintro e w' ⟨rfl, h⟩
    exact ⟨rfl, h⟩
  clear hx9 H8 ho9
  go_upto_region 9 with fail
  obtain ⟨y0, y1, y2, y3, y4, y5⟩ := (unhide H9).2.2.1.six
  obtain ⟨x0, x1, x2, x3, x4, x5⟩ := (unhide H9).2.2.2.1.blk.six
  have p5 := (unhide H9).2.2.2.2.1.six.2.2.2.2.2
  have ky0 := cell_later y0
  have ky1 := cell_later y1
  have ky2 := cell_later y2
  have ky3 := cell_later y3
  have ky4 := cell_later y4
  have ky5 := cell_later y5
  have kx0 := cell_later x0
  have kx1 := cell_later x1
  have kx2 := cell_later x2
  have kx3 := cell_later x3
  have kx4 := cell_later x4
  have kx5 := cell_later x5
  have kp5 := cell_later p5
  clear y0 y1 y2 y3 y4 y5 x0 x1 x2 x3 x4 x5 p5
  have hsome := Later.some w9
  have hcb : (cmpB X != cmpB X) = false := by simp
  have hcc : (costI X != costI X) = false := by simp
  generalize costI X = cX at *
  generalize cmpB X = mX at *
  refine wp_region_later (by kernel_rfl) (by kernel_rfl) ?_
  repeat (go_big_quiet_step (first
    | (go_at_call 12; refine calls_later (unhide HEQ _ (Later.ext _)))
    | (go_at_call 18; refine calls_later (unhide HCH _ (Later.ext _)))
    | (go_at_call 19; first | (with_reducible refine calls_later (unhide HC1 _ (Later.ext _))) | (with_reducible refine calls_later (unhide HC2 _ (Later.ext _))))
    | (go_at_call 20; first | (with_reducible refine calls_later (unhide HK1 _ (Later.ext _))) | (with_reducible refine calls_later (unhide HK2 _ (Later.ext _))))))
  refine wpQuiet_nil ?_
  rintro _ ⟨x, rfl⟩
  have H10 := hide (And.intro ((unhide H9).1.ext x.ext) (And.intro (unhide H9).2.1 (And.intro ((unhide H9).2.2.1.ext x.ext) (And.intro ((unhide H9).2.2.2.1.ext x.ext) (And.intro ((unhide H9).2.2.2.2.1.ext x.ext) ((unhide H9).2.2.2.2.2.trans x.ext))))))
  clear HEQ HCH HC1 HC2 HK1 HK2 ky0 ky1 ky2 ky3 ky4 ky5 kx0 kx1 kx2 kx3 kx4 kx5 kp5 hsome
  generalize x.w = w10 at H10 ⊢
  clear H9 x
  obtain ⟨x0, x1, x2, x3, x4, x5⟩ := (unhide H10).2.2.2.1.blk.six
  obtain ⟨p0, p1, p2, p3, p4, p5⟩ := (unhide H10).2.2.2.2.1.six
  go_wp2_with fail
  refine (get_all (I := X) (unhide H10).2.2.2.1.lo.lr (by omega) (unhide H10).2.2.2.1.abs lv PX PY pw ph).mono ?_
  rintro e w11 ⟨ao10, cap10, rfl, ho10, hx10⟩
  rw [(unhide HBF).2.2.2.2.2.2.2.2] at ho10 ⊢
  rw [(unhide HBF).1]
  clear x0 x1 x2 x3 x4 x5 p0 p1 p2 p3 p4 p5
  have H11 := hide (And.intro ((unhide H10).1.ext hx10) (And.intro (unhide H10).2.1 (And.intro ((unhide H10).2.2.1.ext hx10) (And.intro ((unhide H10).2.2.2.1.ext hx10) (And.intro ((unhide H10).2.2.2.2.1.ext hx10) (And.intro ((unhide H10).2.2.2.2.2.trans hx10) ho10.row))))))
  clear H10 hx10 ho10
  obtain ⟨y0, y1, y2, y3, y4, y5⟩ := (unhide H11).2.2.1.six
  obtain ⟨p0, p1, p2, p3, p4, p5⟩ := (unhide H11).2.2.2.2.1.six
  go_wp2_with fail
  refine (sub_all (I := J) (unhide H11).1.lr (by omega) (unhide H11).2.1.symm (unhide HBLY2) lv PX PY pw ph ao10 cap10 dd (unhide H11).2.2.2.2.2.2).mono ?_
  rintro e w12 ⟨ao11, cap11, LZ, rfl, hlo11, hab11, hx11⟩
  rw [(unhide HBF).2.2.2.2.2.2.1]
  have HB8 := hide (unhide HBF).2.2.2.2.2.2.2.1
  clear HBF y0 y1 y2 y3 y4 y5 p0 p1 p2 p3 p4 p5
  generalize sbI J lv PX PY pw ph dd = Z at *
  have hx12 := hx11.alloc (.cells #[.int .i64 Z.f, .slice ao11 LZ.length cap11, .int .i64 Z.ws, .int .i64 Z.wt, .int .i64 Z.mn, .int .i64 Z.mg] 24)
  have hx122 := (Ext.refl w12).alloc (.cells #[.int .i64 Z.f, .slice ao11 LZ.length cap11, .int .i64 Z.ws, .int .i64 Z.wt, .int .i64 Z.mn, .int .i64 Z.mg] 24)
  have H12 := hide (And.intro (hlo11.ext hx122) (And.intro hab11 (And.intro (Blk.new w12 #[.int .i64 Z.f, .slice ao11 LZ.length cap11, .int .i64 Z.ws, .int .i64 Z.wt, .int .i64 Z.mn, .int .i64 Z.mg] 24) (And.intro ((unhide H11).2.2.2.1.ext hx12) ((unhide H11).2.2.2.2.2.1.trans hx12)))))
  clear H11 hx12 hx122 hlo11 hab11 hx11
  obtain ⟨z0, z1, z2, z3, z4, z5⟩ := (unhide H12).2.2.1.six
  obtain ⟨x0, x1, x2, x3, x4, x5⟩ := (unhide H12).2.2.2.1.blk.six
  go_wp2_with fail
  clear z0 z1 z2 z3 z4 z5 x0 x1 x2 x3 x4 x5
  generalize w12.alloc (.cells #[.int .i64 Z.f, .slice ao11 LZ.length cap11, .int .i64 Z.ws, .int .i64 Z.wt, .int .i64 Z.mn, .int .i64 Z.mg] 24) = w13 at H12 ⊢
  refine (same_any (I := Z) (J := X) (unhide H12).1.lr (unhide H12).2.2.2.1.lo.lr (unhide H12).2.1.symm (unhide H12).2.2.2.1.abs).mono ?_
  rintro e w14 ⟨rfl, hx14⟩
  rw [unhide HB8]
  have HX14 := hide ((unhide H12).2.2.2.2.trans hx14)
  clear hx14 H12
  go_wp2
  go_ret
  exact ⟨rfl, unhide HX14⟩

set_option maxRecDepth 10000
theorem back_owes (H : Type) (enc : TypeId × Value → H) (W : World) (base : Nat) (args : Array Value) (ds : List (DataW H)) (p : List MemPlace) : Owes H enc Try.prog 5 Try.f5 Rows.imageBackSpec W base args ds p := by
  intro hval hA hsz
  rw [Try.params5] at hA hval hsz
  obtain ⟨v0, vs0, d0, ds0, p0, q0, hargs, rfl, rfl, h0, r0⟩ := trodAll_cons hA
  obtain ⟨v1, vs1, d1, ds1, p1, q1, rfl, rfl, rfl, h1, r1⟩ := trodAll_cons r0
  obtain ⟨rfl, rfl, rfl⟩ := trodAll_nil r1
  obtain rfl : args = #[v0, v1] := by cases args; simp_all
  obtain ⟨I, u0, L0, rfl, hI⟩ := open_img (hval 0 24 v0 rfl rfl) h0 (Wgt.arg (j := 0) hsz rfl rfl)
  obtain ⟨lv, X, Y, pw, ph, u, bs, rfl, hq1, hq2, hq3⟩ := open_cut (hval 1 29 v1 rfl rfl) h1 (Wgt.arg (j := 1) hsz rfl rfl)
  exact ⟨⟨rfl, rfl, rfl⟩, back_walk hI lv X Y pw ph u bs hq1 hq2 hq3⟩

set_option maxRecDepth 100000 in
theorem back_lifted (os : Os) (started : os.Started) (H : Type) (enc : TypeId × Value → H) :
    ReturnsInHanded {} Try.checked os 5 .any (Rows.imageBackSpec.pre6 enc Try.prog Try.f5 [] false) (Rows.imageBackSpec.post enc Try.prog Try.f5 false true false false) :=
  lift_law (C := Try.checked) own laidOut started (by kernel_rfl) Try.func5 (T := 4) rfl Try.underlying4 rfl (by kernel_rfl)
    (ChangeSpec.witness6 (enc := enc) (C := Try.checked) false ⟨#[], #[.agg #[.int .i64 0, .slice none 0 0, .int .i64 0, .int .i64 0, .int .i64 0, .int .i64 0], .agg #[.int .i64 0, .int .i64 0, .int .i64 0, .int .i64 0, .int .i64 0, .slice none 0 0]], []⟩ 8 (by kernel_rfl) (by kernel_rfl) (by kernel_rfl) (by kernel_rfl)) (back_owes H enc)

theorem imageBack_holds : Rows.ImageBackSaid :=
  OpenClaim.holds_of_wide 5 Try.f5 rfl rfl rfl rfl rfl rfl rfl ⟨rfl, rfl, rfl, rfl, rfl⟩ rfl rfl rfl rfl rfl (by kernel_rfl) Try.func5 (by kernel_rfl)
    (of_decide_eq_true (by kernel_rfl)) (by unfold Func.isWrapper; rw [if_neg (of_decide_eq_false (by kernel_rfl))]; exact ⟨rfl, rfl⟩)
    (fun os started H enc _ => back_lifted os started H enc)
#print axioms imageBack_holds
end Go.Proofs.Ytpjapdifmfpcnaa
