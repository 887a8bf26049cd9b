/-
  Proved: ImageParams answers true for every image and two numbers and turns nothing that was there: which images may be, which parameters can be set, what is complete and what an image costs is as the rule computes it.
-/
import Derived.Test.YteenkmacpjmmjaaKY
import Derived.Test.YteenkmacpjmmjaaRF
import Derived.Test.YteenkmacpjmmjaaRG
import Derived.Test.YteenkmacpjmmjaaRH
namespace Go.Proofs.Yteenkmacpjmmjaa
open Go.ChangeShapes Go.WideShapes Go.ChangeAt Go.RowKit
set_option linter.unusedVariables false
set_option linter.unusedSimpArgs false

theorem par_L (X : Img) (k n : Int) : (parI X k n).L = X.L ∨ (parI X k n).L = [] := by
  unfold parI
  split
  · exact .inr rfl
  · split
    · exact .inr rfl
    · split
      · exact .inl rfl
      · split
        · exact .inl rfl
        · split <;> exact .inl rfl
theorem byt_of {D : List Ent} {A : List Lev} (h : absL D = A) (hb : ∀ p ∈ A, Byt p.2.2) : ∀ p ∈ D, Byt p.2.2.2 := fun p hp => by
  have := hb (absE p) (by rw [← h]; exact abs_mem hp)
  exact this
theorem par_byt {X : Img} (hb : ∀ p ∈ X.L, Byt p.2.2) (k n : Int) : ∀ p ∈ (parI X k n).L, Byt p.2.2 := by
  rcases par_L X k n with e | e <;> rw [e]
  · exact hb
  · intro p hp; cases hp
theorem par_len {X : Img} (hl : X.L.length ≤ 9) (k n : Int) : (parI X k n).L.length ≤ 9 := by
  rcases par_L X k n with e | e <;> rw [e]
  · exact hl
  · simp

set_option maxRecDepth 10000 in
set_option maxHeartbeats 4000000 in
theorem params_walk {W : World} {I : Img} {v : Value} {L : List Ent} (hI : ImgIn W I v L) (k n : Int) :
    Calls Try.prog 5 #[.agg #[.int .i64 I.f, v, .int .i64 I.ws, .int .i64 I.wt, .int .i64 I.mn, .int .i64 I.mg], .int .i64 k, .int .i64 n] W fun e w' => e = .returned (.bool true) ∧ Ext W w' := by
  obtain ⟨ao, cap, rfl, _⟩ := hI.lr.shape
  have H0 := hide (And.intro ((Ext.refl W).alloc (.cells #[.int .i64 I.f, .slice ao L.length cap, .int .i64 I.ws, .int .i64 I.wt, .int .i64 I.mn, .int .i64 I.mg] 24)) (Blk.new W #[.int .i64 I.f, .slice ao L.length cap, .int .i64 I.ws, .int .i64 I.wt, .int .i64 I.mn, .int .i64 I.mg] 24))
  have HI := hide hI
  clear hI
  go_enter Try.func5, Try.ntmps5
  go_wp2_with fail
  generalize W.alloc (.cells #[.int .i64 I.f, .slice ao L.length cap, .int .i64 I.ws, .int .i64 I.wt, .int .i64 I.mn, .int .i64 I.mg] 24) = w0 at H0 ⊢
  refine (wakes_any _).mono ?_
  rintro e w1 ⟨rfl, hx1⟩
  have H1 := hide (And.intro ((unhide H0).1.trans hx1) ((unhide H0).2.ext hx1))
  clear H0 hx1
  obtain ⟨q0, q1, q2, q3, q4, q5⟩ := (unhide H1).2.six
  go_wp2_with fail
  refine (short_in (unhide HI) (unhide H1).1).mono ?_
  rintro e w2 ⟨ao2, cap2, LX, rfl, hlo2, hab2, hx2⟩
  have hB2 := (unhide H1).2.ext hx2
  have hX2 := (unhide H1).1.trans hx2
  clear q0 q1 q2 q3 q4 q5
  obtain ⟨q0, q1, q2, q3, q4, q5⟩ := hB2.six
  obtain ⟨f0, f1, f2, f3, f4, f5⟩ := hB2.frees
  have hM3 := mine_put (unhide HI) hB2 hlo2 hab2
  have hX3 : Ext W _ := below_grown hX2 (grown_put6 w2 W.heap.size (.int .i64 I.f) (.slice ao2 LX.length cap2) (.int .i64 I.ws) (.int .i64 I.wt) (.int .i64 I.mn) (.int .i64 I.mg)) hX2.size (Nat.le_refl _)
  have H3 := hide (And.intro hM3 hX3)
  clear H1 hlo2 hab2 hx2 hB2 hX2 hM3 hX3
  go_upto_region 4 with fail
  generalize (((((w2.setCell ⟨W.heap.size, 0, none⟩ (.int .i64 I.f)).setCell ⟨W.heap.size, 1, none⟩ (.slice ao2 LX.length cap2)).setCell ⟨W.heap.size, 2, none⟩ (.int .i64 I.ws)).setCell ⟨W.heap.size, 3, none⟩ (.int .i64 I.wt)).setCell ⟨W.heap.size, 4, none⟩ (.int .i64 I.mn)).setCell ⟨W.heap.size, 5, none⟩ (.int .i64 I.mg) = w3 at H3 ⊢
  have hby := short_byt (abs_byt fun p hp => ((unhide HI).all p hp).2.1)
  rw [← (unhide HI).abs] at hby
  have HBY : Hid (∀ p ∈ (shI I).L, Byt p.2.2) := hby
  clear q0 q1 q2 q3 q4 q5 f0 f1 f2 f3 f4 f5 HI hby
  generalize shI I = X at H3 HBY
  have hL9 := (unhide H3).1.len
  have hXl : X.L.length ≤ 9 := by rw [(unhide H3).1.abs, absL_len]; exact hL9
  have HBL : Hid (∀ p ∈ LX, p.2.2.2.length ≤ 140737488355328) := fun p hp => by have := (unhide H3).1.bys p hp; omega
  obtain ⟨q0, q1, q2, q3, q4, q5⟩ := (unhide H3).1.blk.six
  go_wp2_with fail
  refine (refCopy_any (I := X) (unhide H3).1.lo.lr (by omega) (unhide HBL)).mono ?_
  rintro e w4 ⟨ao4, cap4, LZ, rfl, hlo4, hab4, hx4⟩
  have hx5 := (Ext.refl w4).alloc (.cells #[.int .i64 X.f, .slice ao4 LZ.length cap4, .int .i64 X.ws, .int .i64 X.wt, .int .i64 X.mn, .int .i64 X.mg] 24)
  have H5 := hide (And.intro ((unhide H3).1.ext (hx4.trans hx5)) (And.intro (hlo4.lr.ext hx5) (And.intro (Blk.new w4 #[.int .i64 X.f, .slice ao4 LZ.length cap4, .int .i64 X.ws, .int .i64 X.wt, .int .i64 X.mn, .int .i64 X.mg] 24) ((unhide H3).2.trans (hx4.trans hx5)))))
  have HAZ : Hid (X.L = absL LZ) := by show _ = _; rw [hab4]; exact (unhide H3).1.abs
  have hLZ : LZ.length ≤ 9 := by
    have := congrArg List.length hab4
    rw [absL_len, absL_len] at this
    omega
  have HBLZ : Hid (∀ p ∈ LZ, p.2.2.2.length ≤ 20000) := fun p hp => by
    have h1 := abs_mem hp
    rw [hab4] at h1
    obtain ⟨q, hq, hqe⟩ := List.mem_map.1 h1
    have h2 := (unhide H3).1.bys q hq
    have h3 : q.2.2.2 = p.2.2.2 := congrArg (fun t => t.2.2) hqe
    rw [← h3]
    exact h2
  clear q0 q1 q2 q3 q4 q5 hlo4 hab4 hx4 hx5 H3
  go_upto_region 5 with fail
  generalize w4.alloc (.cells #[.int .i64 X.f, .slice ao4 LZ.length cap4, .int .i64 X.ws, .int .i64 X.wt, .int .i64 X.mn, .int .i64 X.mg] 24) = w5 at H5 ⊢
  obtain ⟨q0, q1, q2, q3, q4, q5⟩ := (unhide H5).1.blk.six
  go_wp2_with fail
  refine (param_any (I := X) (unhide H5).1.lo.lr (by omega) (unhide H5).1.abs (unhide HBL) k n).mono ?_
  rintro e w6 ⟨ao6, cap6, LG, rfl, hlo6, hab6, hx6⟩
  have hx7 := (Ext.refl w6).alloc (.cells #[.int .i64 (parI X k n).f, .slice ao6 LG.length cap6, .int .i64 (parI X k n).ws, .int .i64 (parI X k n).wt, .int .i64 (parI X k n).mn, .int .i64 (parI X k n).mg] 24)
  have H7 := hide (And.intro (hlo6.ext hx7) (And.intro hab6 (And.intro (Blk.new w6 #[.int .i64 (parI X k n).f, .slice ao6 LG.length cap6, .int .i64 (parI X k n).ws, .int .i64 (parI X k n).wt, .int .i64 (parI X k n).mn, .int .i64 (parI X k n).mg] 24) (hx6.trans hx7))))
  clear q0 q1 q2 q3 q4 q5 hlo6 hab6 hx6 hx7
  go_upto_region 6 with fail
  generalize w6.alloc (.cells #[.int .i64 (parI X k n).f, .slice ao6 LG.length cap6, .int .i64 (parI X k n).ws, .int .i64 (parI X k n).wt, .int .i64 (parI X k n).mn, .int .i64 (parI X k n).mg] 24) = w7 at H7 ⊢
  obtain ⟨z0, z1, z2, z3, z4, z5⟩ := ((unhide H5).2.2.1.ext (unhide H7).2.2.2).six
  go_wp2_with fail
  refine (refParam_any (I := X) ((unhide H5).2.1.ext (unhide H7).2.2.2) (by omega) (unhide HAZ) (fun p hp => by have := unhide HBLZ p hp; omega) k n).mono ?_
  rintro e w8 ⟨ao8, cap8, LW, rfl, hlo8, hab8, hx8⟩
  have hx9 := (Ext.refl w8).alloc (.cells #[.int .i64 (parI X k n).f, .slice ao8 LW.length cap8, .int .i64 (parI X k n).ws, .int .i64 (parI X k n).wt, .int .i64 (parI X k n).mn, .int .i64 (parI X k n).mg] 24)
  have hx59 := (unhide H7).2.2.2.trans (hx8.trans hx9)
  have H9 := hide (And.intro ((unhide H7).1.ext (hx8.trans hx9)) (And.intro (hlo8.lr.ext hx9) (And.intro hab8 (And.intro ((unhide H7).2.2.1.ext (hx8.trans hx9)) (And.intro (Blk.new w8 #[.int .i64 (parI X k n).f, .slice ao8 LW.length cap8, .int .i64 (parI X k n).ws, .int .i64 (parI X k n).wt, .int .i64 (parI X k n).mn, .int .i64 (parI X k n).mg] 24) hx59)))))
  clear z0 z1 z2 z3 z4 z5 hlo8 hab8 hx8 hx9 hx59
  go_upto_region 7 with fail
  generalize w8.alloc (.cells #[.int .i64 (parI X k n).f, .slice ao8 LW.length cap8, .int .i64 (parI X k n).ws, .int .i64 (parI X k n).wt, .int .i64 (parI X k n).mn, .int .i64 (parI X k n).mg] 24) = w9 at H9 ⊢
  obtain ⟨g0, g1, g2, g3, g4, g5⟩ := (unhide H9).2.2.2.1.six
  obtain ⟨v0, v1, v2, v3, v4, v5⟩ := (unhide H9).2.2.2.2.1.six
  obtain ⟨q0, q1, q2, q3, q4, q5⟩ := ((unhide H5).1.blk.ext (unhide H9).2.2.2.2.2).six
  obtain ⟨z0, z1, z2, z3, z4, z5⟩ := ((unhide H5).2.2.1.ext (unhide H9).2.2.2.2.2).six
  go_wp2_with fail
  refine (right_any (IG := parI X k n) (IW := parI X k n) (IF := X) (IZ := X) (unhide H9).2.2.2.2.2 (unhide H9).1 (unhide H9).2.1 (unhide H5).1.lo.lr (unhide H5).2.1 (unhide H7).2.1.symm (unhide H9).2.2.1.symm (unhide H5).1.abs (unhide HAZ) (byt_of (unhide H7).2.1 (par_byt (unhide HBY) k n)) (byt_of (unhide H9).2.2.1 (par_byt (unhide HBY) k n)) (unhide H5).1.byt (byt_of (unhide HAZ).symm (unhide HBY)) ?rl (same_refl _) (same_refl _)).mono ?_
  case rl =>
    have h1 := par_len hXl k n
    rw [← (unhide H7).2.1, absL_len] at h1
    omega
  rintro r w10 ⟨rfl, hx10⟩
  have H10 := hide (And.intro ((unhide H5).1.ext hx10) (And.intro ((unhide H5).2.1.ext hx10) (And.intro ((unhide H5).2.2.1.ext hx10) ((unhide H5).2.2.2.trans hx10))))
  clear H5 H7 H9 hx10 g0 g1 g2 g3 g4 g5 v0 v1 v2 v3 v4 v5 q0 q1 q2 q3 q4 q5 z0 z1 z2 z3 z4 z5
  obtain ⟨q0, q1, q2, q3, q4, q5⟩ := (unhide H10).1.blk.six
  go_wp2_with fail
  refine (check_any (I := X) (unhide H10).1.lo.lr (by omega) (unhide H10).1.abs).mono ?_
  rintro e w11 ⟨rfl, hx11⟩
  have H11 := hide (And.intro ((unhide H10).1.ext hx11) (And.intro ((unhide H10).2.1.ext hx11) (And.intro ((unhide H10).2.2.1.ext hx11) ((unhide H10).2.2.2.trans hx11))))
  clear H10 hx11 q0 q1 q2 q3 q4 q5
  obtain ⟨q0, q1, q2, q3, q4, q5⟩ := (unhide H11).1.blk.six
  obtain ⟨z0, z1, z2, z3, z4, z5⟩ := (unhide H11).2.2.1.six
  have HR : Hid (∀ wx, Ext w11 wx → Calls Try.prog 24 #[.agg #[.int .i64 X.f, .slice ao4 LZ.length cap4, .int .i64 X.ws, .int .i64 X.wt, .int .i64 X.mn, .int .i64 X.mg]] wx fun e w' => e = .returned (.bool (okB (sizI X.f) X)) ∧ Ext wx w') := fun wx hx => refRight_any (I := X) ((unhide H11).2.1.ext hx) (unhide HAZ)
  have HC1 : Hid (∀ wx, Ext w11 wx → Calls Try.prog 25 #[.agg #[.int .i64 X.f, .slice ao2 LX.length cap2, .int .i64 X.ws, .int .i64 X.wt, .int .i64 X.mn, .int .i64 X.mg]] wx fun e w' => e = .returned (.bool (cmpB X)) ∧ Ext wx w') := fun wx hx => complete_any (I := X) ((unhide H11).1.lo.lr.ext hx) (by omega) (unhide H11).1.abs
  have HC2 : Hid (∀ wx, Ext w11 wx → Calls Try.prog 26 #[.agg #[.int .i64 X.f, .slice ao4 LZ.length cap4, .int .i64 X.ws, .int .i64 X.wt, .int .i64 X.mn, .int .i64 X.mg]] wx fun e w' => e = .returned (.bool (cmpB X)) ∧ Ext wx w') := fun wx hx => refComplete_any (I := X) ((unhide H11).2.1.ext hx) (unhide HAZ)
  have HK1 : Hid (∀ wx, Ext w11 wx → Calls Try.prog 27 #[.agg #[.int .i64 X.f, .slice ao2 LX.length cap2, .int .i64 X.ws, .int .i64 X.wt, .int .i64 X.mn, .int .i64 X.mg]] wx fun e w' => e = .returned (.int .i64 (costI X)) ∧ Ext wx w') := fun wx hx => cost_any (I := X) ((unhide H11).1.lo.lr.ext hx) (by omega) (unhide H11).1.abs (unhide H11).1.bys
  have HK2 : Hid (∀ wx, Ext w11 wx → Calls Try.prog 28 #[.agg #[.int .i64 X.f, .slice ao4 LZ.length cap4, .int .i64 X.ws, .int .i64 X.wt, .int .i64 X.mn, .int .i64 X.mg]] wx fun e w' => e = .returned (.int .i64 (costI X)) ∧ Ext wx w') := fun wx hx => refCost_any (I := X) ((unhide H11).2.1.ext hx) (by omega) (unhide HAZ) (unhide HBLZ)
  have HXE := hide (unhide H11).2.2.2
  have k0 := cell_later q0
  have k1 := cell_later q1
  have k2 := cell_later q2
  have k3 := cell_later q3
  have k4 := cell_later q4
  have k5 := cell_later q5
  have m0 := cell_later z0
  have m1 := cell_later z1
  have m2 := cell_later z2
  have m3 := cell_later z3
  have m4 := cell_later z4
  have m5 := cell_later z5
  have hsome := Later.some w11
  clear q0 q1 q2 q3 q4 q5 z0 z1 z2 z3 z4 z5
  cases hok : okB (sizI X.f) X with
  | false =>
    have c1 := chkE_no (I := X) (by rw [hok]; simp)
    rw [c1]
    rw [hok] at HR
    clear c1 hok
    go_upto_region 10 with fail
    refine wp_region_later (by kernel_rfl) (by kernel_rfl) ?_
    repeat (go_big_quiet_step (first
      | (go_at_call 24; refine calls_later (unhide HR _ (Later.ext _)))
      | (go_at_call 25; refine calls_later (unhide HC1 _ (Later.ext _)))
      | (go_at_call 26; refine calls_later (unhide HC2 _ (Later.ext _)))
      | (go_at_call 27; refine calls_later (unhide HK1 _ (Later.ext _)))
      | (go_at_call 28; refine calls_later (unhide HK2 _ (Later.ext _)))))
    refine wpQuiet_nil ?_
    rintro _ ⟨x, rfl⟩
    have hx12 := hide ((unhide HXE).trans x.ext)
    generalize x.w = w12 at hx12 ⊢
    go_wp2
    go_ret
    exact ⟨rfl, unhide hx12⟩
  | true =>
    have c1 := chkE_yes (I := X) hok
    rw [c1]
    rw [hok] at HR
    clear c1 hok
    go_upto_region 10 with fail
    refine wp_region_later (by kernel_rfl) (by kernel_rfl) ?_
    repeat (go_big_quiet_step (first
      | (go_at_call 24; refine calls_later (unhide HR _ (Later.ext _)))
      | (go_at_call 25; refine calls_later (unhide HC1 _ (Later.ext _)))
      | (go_at_call 26; refine calls_later (unhide HC2 _ (Later.ext _)))
      | (go_at_call 27; refine calls_later (unhide HK1 _ (Later.ext _)))
      | (go_at_call 28; refine calls_later (unhide HK2 _ (Later.ext _)))))
    refine wpQuiet_nil ?_
    rintro _ ⟨x, rfl⟩
    have hx12 := hide ((unhide HXE).trans x.ext)
    generalize x.w = w12 at hx12 ⊢
    go_wp2
    go_ret
    exact ⟨rfl, unhide hx12⟩

set_option maxRecDepth 10000
theorem params_owes (H : Type) (enc : TypeId × Value → H) (W : World) (base : Nat) (args : Array Value) (ds : List (DataW H)) (p : List MemPlace) : Owes H enc Try.prog 5 Try.f5 Rows.imageParamsSpec W base args ds p := by
  intro hval hA hsz
  rw [Try.params5] at hA hval hsz
  obtain ⟨v0, vs0, d0, ds0, p0, q0, hargs, rfl, rfl, h0, r0⟩ := trodAll_cons hA
  obtain ⟨v1, vs1, d1, ds1, p1, q1, rfl, rfl, rfl, h1, r1⟩ := trodAll_cons r0
  obtain ⟨v2, vs2, d2, ds2, p2, q2, rfl, rfl, rfl, h2, r2⟩ := trodAll_cons r1
  obtain ⟨rfl, rfl, rfl⟩ := trodAll_nil r2
  obtain rfl : args = #[v0, v1, v2] := by cases args; simp_all
  obtain ⟨I, u0, L0, rfl, hI⟩ := open_img (hval 0 24 v0 rfl rfl) h0 (Wgt.arg (j := 0) hsz rfl rfl)
  obtain ⟨x, rfl, rfl, rfl, wx⟩ := open_int Try.underlying3 (hval 1 3 v1 rfl rfl) h1
  obtain ⟨y, rfl, rfl, rfl, wy⟩ := open_int Try.underlying3 (hval 2 3 v2 rfl rfl) h2
  exact ⟨⟨rfl, rfl, rfl⟩, params_walk hI x y⟩

set_option maxRecDepth 100000 in
theorem params_lifted (os : Os) (started : os.Started) (H : Type) (enc : TypeId × Value → H) :
    ReturnsInHanded {} Try.checked os 5 .any (Rows.imageParamsSpec.pre6 enc Try.prog Try.f5 [] false) (Rows.imageParamsSpec.post enc Try.prog Try.f5 false true false false) :=
  lift_law (C := Try.checked) own laidOut started (by kernel_rfl) Try.func5 (T := 4) rfl Try.underlying4 rfl (by kernel_rfl)
    (ChangeSpec.witness6 (enc := enc) (C := Try.checked) false ⟨#[], #[.agg #[.int .i64 0, .slice none 0 0, .int .i64 0, .int .i64 0, .int .i64 0, .int .i64 0], .int .i64 0, .int .i64 0], []⟩ 8 (by kernel_rfl) (by kernel_rfl) (by kernel_rfl) (by kernel_rfl)) (params_owes H enc)

theorem imageParams_holds : Rows.ImageParamsSaid :=
  OpenClaim.holds_of_wide 5 Try.f5 rfl rfl rfl rfl rfl rfl rfl ⟨rfl, rfl, rfl, rfl, rfl⟩ rfl rfl rfl rfl rfl (by kernel_rfl) Try.func5 (by kernel_rfl)
    (of_decide_eq_true (by kernel_rfl)) (by unfold Func.isWrapper; rw [if_neg (of_decide_eq_false (by kernel_rfl))]; exact ⟨rfl, rfl⟩)
    (fun os started H enc _ => params_lifted os started H enc)
#print axioms imageParams_holds
end Go.Proofs.Yteenkmacpjmmjaa
