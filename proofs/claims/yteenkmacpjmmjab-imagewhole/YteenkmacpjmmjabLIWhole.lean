/-
  Proved: ImageWhole answers true for every image and turns nothing that was there: a generated image is complete, and generating it once more changes nothing.
-/
import Derived.Test.YteenkmacpjmmjabKX
import Derived.Test.YteenkmacpjmmjabIG
namespace Go.Proofs.Yteenkmacpjmmjab
open Go.ChangeShapes Go.WideShapes Go.ChangeAt Go.RowKit
set_option linter.unusedVariables false
set_option linter.unusedSimpArgs false

theorem gen_byt {X : Img} (hb : ∀ p ∈ X.L, Byt p.2.2) : ∀ p ∈ genL X, Byt p.2.2 := by
  intro p hp
  unfold genL chn at hp
  obtain ⟨i, _, rfl⟩ := List.mem_map.1 hp
  refine itL_byt ?_ i
  by_cases h : 0 < X.L.length
  · rw [List.getD_eq_getElem?_getD, List.getElem?_eq_getElem h, Option.getD_some]
    exact hb _ (List.getElem_mem h)
  · rw [List.getD_eq_getElem?_getD, List.getElem?_eq_none (by omega)]
    simp [noLev, Byt]
theorem gen_len {X : Img} (h : genE X = 0) : ∀ p ∈ genL X, p.2.2.length ≤ 16384 := by
  obtain ⟨hok, hh, hp⟩ := genE_zero h
  have h1 := (gen_facts h).1
  obtain ⟨hok2, _, _⟩ := genE_zero h1
  rw [okB_iff] at hok2
  intro p hp
  have h2 := hok2.2.2.1 p hp
  have hsb := siz_bd X.f
  unfold lvB at h2
  rcases Bool.or_eq_true _ _ |>.mp h2 with h4 | h4
  · unfold noneB at h4
    simp only [decide_eq_true_eq] at h4
    omega
  · obtain ⟨a1, a2, a3⟩ := goodB_iff.1 h4
    have e : sizI (genI X).f = sizI X.f := rfl
    rw [e] at a3
    have m1 : p.1 * p.2.1 ≤ 64 * 64 := Int.mul_le_mul a1.2 a2.2 (by omega) (by omega)
    have m2 : p.1 * p.2.1 * sizI X.f ≤ 4096 * 4 := Int.mul_le_mul m1 (by omega) (by omega) (by omega)
    omega
theorem gen_twice {X : Img} (h : genE X = 0) : genI (genI X) = genI X := by
  have e := (gen_facts h).2.1
  unfold genI at e ⊢
  rw [e]

set_option maxRecDepth 10000 in
set_option maxHeartbeats 4000000 in
theorem whole_walk {W : World} {I : Img} {v : Value} {L : List Ent} (hI : ImgIn W I v L) :
    Calls Try.prog 4 #[.agg #[.int .i64 I.f, v, .int .i64 I.ws, .int .i64 I.wt, .int .i64 I.mn, .int .i64 I.mg]] W fun e w' => e = .returned (.bool true) ∧ Ext W w' := by
  obtain ⟨ao, cap, rfl, _⟩ := hI.lr.shape
  have H0 := hide (And.intro ((Ext.refl W).alloc (.cells #[.int .i64 I.f, .slice ao L.length cap, .int .i64 I.ws, .int .i64 I.wt, .int .i64 I.mn, .int .i64 I.mg] 24)) (Blk.new W #[.int .i64 I.f, .slice ao L.length cap, .int .i64 I.ws, .int .i64 I.wt, .int .i64 I.mn, .int .i64 I.mg] 24))
  have HI := hide hI
  clear hI
  go_enter Try.func4, Try.ntmps4
  go_wp2_with fail
  generalize W.alloc (.cells #[.int .i64 I.f, .slice ao L.length cap, .int .i64 I.ws, .int .i64 I.wt, .int .i64 I.mn, .int .i64 I.mg] 24) = w0 at H0 ⊢
  refine (wakes_any _).mono ?_
  rintro e w1 ⟨rfl, hx1⟩
  have H1 := hide (And.intro ((unhide H0).1.trans hx1) ((unhide H0).2.ext hx1))
  clear H0 hx1
  obtain ⟨q0, q1, q2, q3, q4, q5⟩ := (unhide H1).2.six
  go_wp2_with fail
  refine (short_in (unhide HI) (unhide H1).1).mono ?_
  rintro e w2 ⟨ao2, cap2, LX, rfl, hlo2, hab2, hx2⟩
  have hB2 := (unhide H1).2.ext hx2
  have hX2 := (unhide H1).1.trans hx2
  clear q0 q1 q2 q3 q4 q5
  obtain ⟨q0, q1, q2, q3, q4, q5⟩ := hB2.six
  obtain ⟨f0, f1, f2, f3, f4, f5⟩ := hB2.frees
  have hM3 := mine_put (unhide HI) hB2 hlo2 hab2
  have hX3 : Ext W _ := below_grown hX2 (grown_put6 w2 W.heap.size (.int .i64 I.f) (.slice ao2 LX.length cap2) (.int .i64 I.ws) (.int .i64 I.wt) (.int .i64 I.mn) (.int .i64 I.mg)) hX2.size (Nat.le_refl _)
  have H3 := hide (And.intro hM3 hX3)
  clear H1 hlo2 hab2 hx2 hB2 hX2 hM3 hX3
  go_upto_region 4 with fail
  generalize (((((w2.setCell ⟨W.heap.size, 0, none⟩ (.int .i64 I.f)).setCell ⟨W.heap.size, 1, none⟩ (.slice ao2 LX.length cap2)).setCell ⟨W.heap.size, 2, none⟩ (.int .i64 I.ws)).setCell ⟨W.heap.size, 3, none⟩ (.int .i64 I.wt)).setCell ⟨W.heap.size, 4, none⟩ (.int .i64 I.mn)).setCell ⟨W.heap.size, 5, none⟩ (.int .i64 I.mg) = w3 at H3 ⊢
  have hby := short_byt (abs_byt fun p hp => ((unhide HI).all p hp).2.1)
  rw [← (unhide HI).abs] at hby
  have HBY : Hid (∀ p ∈ (shI I).L, Byt p.2.2) := hby
  clear q0 q1 q2 q3 q4 q5 f0 f1 f2 f3 f4 f5 HI hby
  generalize shI I = X at H3 HBY
  obtain ⟨q0, q1, q2, q3, q4, q5⟩ := (unhide H3).1.blk.six
  have hL9 := (unhide H3).1.len
  have HBL : Hid (∀ p ∈ LX, p.2.2.2.length ≤ 140737488355328) := fun p hp => by have := (unhide H3).1.bys p hp; omega
  by_cases hE : genE X = 0
  case neg =>
    have d0 : (genE X != 0) = true := by simp [hE]
    go_wp2_with fail
    refine (generate_bad (I := X) (unhide H3).1.lo.lr (by omega) (unhide H3).1.abs hE).mono ?_
    rintro e w4 ⟨rfl, hx4⟩
    have HX4 := hide ((unhide H3).2.trans hx4)
    clear hx4 H3 q0 q1 q2 q3 q4 q5 hE HBL
    go_wp2
    go_ret
    exact ⟨rfl, (unhide HX4).alloc _⟩
  case pos =>
  have HE := hide hE
  go_wp2_with fail
  refine (generate_good (I := X) (unhide H3).1.lo.lr (by omega) (unhide H3).1.abs (unhide HBL) (unhide H3).1.byt hE).mono ?_
  rintro e w4 ⟨ao4, cap4, LY, rfl, hlo4, hab4, hx4⟩
  obtain ⟨gf1, gf2, gf3, gf4, gf5, gf6, gf7⟩ := gen_facts hE
  have hLYl : LY.length = (genL X).length := by rw [← hab4, absL_len]
  have hLY0 : 0 < LY.length := by
    have h1 := (gen_facts gf1).2.2.2.2.2.1
    have h2 : (genI X).L.length = (genL X).length := rfl
    omega
  have hLY7 : LY.length ≤ 7 := by omega
  have HBLY : Hid (∀ p ∈ LY, p.2.2.2.length ≤ 140737488355328) := fun p hp => by
    have := gen_len hE (absE p) (by rw [← hab4]; exact abs_mem hp)
    have e9 : (absE p).2.2 = p.2.2.2 := rfl
    rw [e9] at this
    omega
  have HBBY : Hid (∀ p ∈ LY, Byt p.2.2.2) := fun p hp => gen_byt (unhide HBY) (absE p) (by rw [← hab4]; exact abs_mem hp)
  have HGF := hide (And.intro gf1 (And.intro gf2 (And.intro gf3 (And.intro gf4 (And.intro gf5 gf6)))))
  have HLYL := hide hLYl
  have hx5 := (Ext.refl w4).alloc (.cells #[.int .i64 X.f, .slice ao4 LY.length cap4, .int .i64 X.ws, .int .i64 X.wt, .int .i64 X.mn, .int .i64 X.mg] 24)
  have H5 := hide (And.intro (hlo4.ext hx5) (And.intro hab4 (And.intro (Blk.new w4 #[.int .i64 X.f, .slice ao4 LY.length cap4, .int .i64 X.ws, .int .i64 X.wt, .int .i64 X.mn, .int .i64 X.mg] 24) (And.intro (hx4.trans hx5) ((unhide H3).1.ext (hx4.trans hx5))))))
  have HX5 := hide ((unhide H3).2.trans (hx4.trans hx5))
  clear gf1 gf2 gf3 gf4 gf5 gf6 gf7 hlo4 hab4 hx4 hx5 hLYl hE q0 q1 q2 q3 q4 q5
  go_wp2_with fail
  generalize w4.alloc (.cells #[.int .i64 X.f, .slice ao4 LY.length cap4, .int .i64 X.ws, .int .i64 X.wt, .int .i64 X.mn, .int .i64 X.mg] 24) = w5 at H5 HX5 ⊢
  refine (generate_good (I := genI X) (unhide H5).1.lr (by omega) (unhide H5).2.1.symm (unhide HBLY) (unhide HBBY) (unhide HGF).1).mono ?_
  rintro e w6 ⟨ao6, cap6, LZ, rfl, hlo6, hab6, hx6⟩
  have hx7 := (Ext.refl w6).alloc (.cells #[.int .i64 (genI X).f, .slice ao6 LZ.length cap6, .int .i64 (genI X).ws, .int .i64 (genI X).wt, .int .i64 (genI X).mn, .int .i64 (genI X).mg] 24)
  have hx57 := hx6.trans hx7
  have hZ7 := Blk.new w6 #[.int .i64 (genI X).f, .slice ao6 LZ.length cap6, .int .i64 (genI X).ws, .int .i64 (genI X).wt, .int .i64 (genI X).mn, .int .i64 (genI X).mg] 24
  have hlo7 := (unhide H5).1.ext hx57
  have hY7 := (unhide H5).2.2.1.ext hx57
  have hM7 := (unhide H5).2.2.2.2.ext hx57
  have hlz7 := hlo6.lr.ext hx7
  obtain ⟨gY, curY, eY, _, _, _⟩ := hlo7.blk hLY0
  subst eY
  obtain ⟨b, off, bo, bcap, e1, eb, c0, c1, c2, hr⟩ := hlo7.lr.at 0 hLY0
  cases e1
  simp only [Nat.zero_mul, Nat.add_zero, Nat.zero_add] at c0 c1 c2
  have hLX0 : 0 < LX.length := by
    have h1 := (unhide HGF).2.2.2.2.2
    rw [(unhide H5).2.2.2.2.abs, absL_len] at h1
    exact h1
  have hcap : LY.length ≤ cap4 ∧ cap4 ≤ 9223372036854775807 := by
    obtain ⟨_, _, e9, _, h9, h10⟩ := hlo7.cut
    cases e9
    unfold maxLen at h10
    exact ⟨h9, by omega⟩
  obtain ⟨hcap1, hcap4⟩ := hcap
  have y1 := hY7.six.2.1
  have hLz : (0 : Int) < (LY.length : Int) := by omega
  obtain ⟨bX, offX, boX, bcapX, eX1, ebX, d0, d1, d2, hrX⟩ := hM7.lo.lr.at 0 hLX0
  subst eX1
  simp only [Nat.zero_mul, Nat.add_zero, Nat.zero_add] at d0 d1 d2
  have hcapX : LX.length ≤ cap2 ∧ cap2 ≤ 9223372036854775807 := by
    obtain ⟨_, _, e9, _, h9, h10⟩ := hM7.lo.cut
    cases e9
    unfold maxLen at h10
    exact ⟨h9, by omega⟩
  obtain ⟨hcapX1, hcapX4⟩ := hcapX
  have hXz : (0 : Int) < (LX.length : Int) := by omega
  -- what level 0 is
  have heq : absE LY[0] = absE LX[0] := by
    have h1 := absL_getD LY 0 hLY0
    have h2 := absL_getD LX 0 hLX0
    rw [← h1, ← h2, (unhide H5).2.1, ← (unhide H5).2.2.2.2.abs]
    exact (unhide HGF).2.2.2.2.1
  have hq1 : LY[0].1 = LX[0].1 := congrArg (fun p => p.1) heq
  have hq2 : LY[0].2.1 = LX[0].2.1 := congrArg (fun p => p.2.1) heq
  have hq3 : LY[0].2.2.2 = LX[0].2.2.2 := congrArg (fun p => p.2.2) heq
  have HCN : Hid (cntI LY[0].1 LY[0].2.1 = (LY.length : Int)) := by
    show _ = _
    have h1 := (unhide HGF).2.2.2.1
    rw [(unhide H5).2.2.2.2.abs, absL_getD LX 0 hLX0] at h1
    rw [hq1, hq2, unhide HLYL]
    exact h1.symm
  have hbX := (unhide HBBY) _ (List.getElem_mem hLY0)
  rw [← hq3] at d2 hrX
  have HS : Hid (∀ wx, Ext (w6.alloc (.cells #[.int .i64 (genI X).f, .slice ao6 LZ.length cap6, .int .i64 (genI X).ws, .int .i64 (genI X).wt, .int .i64 (genI X).mn, .int .i64 (genI X).mg] 24)) wx → Calls Try.prog 14 #[.agg #[.int .i64 X.f, .slice (some ⟨gY, 0, none⟩) LY.length cap4, .int .i64 X.ws, .int .i64 X.wt, .int .i64 X.mn, .int .i64 X.mg], .agg #[.int .i64 (genI X).f, .slice ao6 LZ.length cap6, .int .i64 (genI X).ws, .int .i64 (genI X).wt, .int .i64 (genI X).mn, .int .i64 (genI X).mg]] wx fun e w' => e = .returned (.bool true) ∧ Ext wx w') := fun wx hx => by
    refine (same_any (I := genI X) (J := genI (genI X)) (hlo7.lr.ext hx) (hlz7.ext hx) (unhide H5).2.1.symm hab6.symm).mono ?_
    rintro e w' ⟨rfl, h⟩
    exact ⟨by rw [gen_twice (unhide HE), same_refl], h⟩
  have HC : Hid (∀ wx, Ext (w6.alloc (.cells #[.int .i64 (genI X).f, .slice ao6 LZ.length cap6, .int .i64 (genI X).ws, .int .i64 (genI X).wt, .int .i64 (genI X).mn, .int .i64 (genI X).mg] 24)) wx → Calls Try.prog 13 #[.agg #[.int .i64 X.f, .slice (some ⟨gY, 0, none⟩) LY.length cap4, .int .i64 X.ws, .int .i64 X.wt, .int .i64 X.mn, .int .i64 X.mg]] wx fun e w' => e = .returned (.bool true) ∧ Ext wx w') := fun wx hx => by
    refine (complete_any (I := genI X) (hlo7.lr.ext hx) (by omega) (unhide H5).2.1.symm).mono ?_
    rintro e w' ⟨rfl, h⟩
    exact ⟨by rw [(unhide HGF).2.2.1], h⟩
  have HEQ : Hid (∀ wx, Ext (w6.alloc (.cells #[.int .i64 (genI X).f, .slice ao6 LZ.length cap6, .int .i64 (genI X).ws, .int .i64 (genI X).wt, .int .i64 (genI X).mn, .int .i64 (genI X).mg] 24)) wx → Calls Try.prog 10 #[.slice bo LY[0].2.2.2.length bcap, .slice boX LY[0].2.2.2.length bcapX] wx fun e w' => e = .returned (.bool true) ∧ Ext wx w') := fun wx hx => by
    refine (equal_any bo boX bcap bcapX LY[0].2.2.2 LY[0].2.2.2 wx (hr.ext hx) (hrX.ext hx) hbX hbX).mono ?_
    rintro e w' ⟨rfl, rfl⟩
    exact ⟨by simp, Ext.refl _⟩
  have HN : Hid (∀ wx, Calls Try.prog 16 #[.int .i64 LY[0].1, .int .i64 LY[0].2.1] wx fun e w' => e = .returned (.int .i64 (LY.length : Int)) ∧ Ext wx w') := fun wx => by
    refine (count_any LY[0].1 LY[0].2.1 wx).mono ?_
    rintro e w' ⟨rfl, rfl⟩
    exact ⟨by rw [unhide HCN], Ext.refl _⟩
  have HXE := hide ((unhide HX5).trans hx57)
  have H7 := hide (And.intro hY7 (And.intro hZ7 hM7.blk))
  generalize LY[0].1 = lW at *
  generalize LY[0].2.1 = lH at *
  generalize LY[0].2.2.2.length = ln at *
  have hx8 := (Ext.refl (w6.alloc (.cells #[.int .i64 (genI X).f, .slice ao6 LZ.length cap6, .int .i64 (genI X).ws, .int .i64 (genI X).wt, .int .i64 (genI X).mn, .int .i64 (genI X).mg] 24))).alloc (.cells #[.int .i64 lW, .int .i64 lH, .slice bo ln bcap] 45)
  have HX8 := hide hx8
  have hc8 : ∀ p u, (w6.alloc (.cells #[.int .i64 (genI X).f, .slice ao6 LZ.length cap6, .int .i64 (genI X).ws, .int .i64 (genI X).wt, .int .i64 (genI X).mn, .int .i64 (genI X).mg] 24)).cell? p = some u → ((w6.alloc (.cells #[.int .i64 (genI X).f, .slice ao6 LZ.length cap6, .int .i64 (genI X).ws, .int .i64 (genI X).wt, .int .i64 (genI X).mn, .int .i64 (genI X).mg] 24)).alloc (.cells #[.int .i64 lW, .int .i64 lH, .slice bo ln bcap] 45)).cell? p = some u := fun p u hu => by
    rw [hx8.cell (p := p) (World.block_lt_of_cell? _ _ hu)]
    exact hu
  have D2 := hide (hc8 _ _ d2)
  have HL8 := hide (show Blk ((w6.alloc (.cells #[.int .i64 (genI X).f, .slice ao6 LZ.length cap6, .int .i64 (genI X).ws, .int .i64 (genI X).wt, .int .i64 (genI X).mn, .int .i64 (genI X).mg] 24)).alloc (.cells #[.int .i64 lW, .int .i64 lH, .slice bo ln bcap] 45)) (w6.heap.size + 1) #[.int .i64 lW, .int .i64 lH, .slice bo ln bcap] 45 from Blk.at (by simp))
  clear hlo7 hY7 hM7 hlz7 hlo6 hab6 hx6 hx7 hx57 hZ7 eb ebX hr hrX d0 d1 d2 heq hq1 hq2 hq3 hbX HCN H5 HBLY HBBY HGF HLYL hx8 hc8
  go_upto_region 9 with fail
  generalize (w6.alloc (.cells #[.int .i64 (genI X).f, .slice ao6 LZ.length cap6, .int .i64 (genI X).ws, .int .i64 (genI X).wt, .int .i64 (genI X).mn, .int .i64 (genI X).mg] 24)).alloc (.cells #[.int .i64 lW, .int .i64 lH, .slice bo ln bcap] 45) = w8 at HX8 D2 HL8 ⊢
  obtain ⟨hY7, hZ7, hB7⟩ := unhide H7
  obtain ⟨yy0, yy1, yy2, yy3, yy4, yy5⟩ := (hY7.ext (unhide HX8)).six
  obtain ⟨zz0, zz1, zz2, zz3, zz4, zz5⟩ := (hZ7.ext (unhide HX8)).six
  have xx1 := (hB7.ext (unhide HX8)).six.2.1
  obtain ⟨ll0, ll1, ll2⟩ := (unhide HL8).three
  have k0 := cell_later yy0
  have k1 := cell_later yy1
  have k2 := cell_later yy2
  have k3 := cell_later yy3
  have k4 := cell_later yy4
  have k5 := cell_later yy5
  have m0 := cell_later zz0
  have m1 := cell_later zz1
  have m2 := cell_later zz2
  have m3 := cell_later zz3
  have m4 := cell_later zz4
  have m5 := cell_later zz5
  have n1 := cell_later xx1
  have o0 := cell_later ll0
  have o1 := cell_later ll1
  have o2 := cell_later ll2
  have t2 := cell_later (unhide D2)
  clear hY7 hZ7 hB7 H7 c0 c1 c2 y1 yy0 yy1 yy2 yy3 yy4 yy5 zz0 zz1 zz2 zz3 zz4 zz5 xx1 ll0 ll1 ll2
  have hsome := Later.some w8
  refine wp_region_later (by kernel_rfl) (by kernel_rfl) ?_
  repeat (go_big_quiet_step (first
    | (go_at_call 14; refine calls_later (unhide HS _ ((unhide HX8).trans (Later.ext _))))
    | (go_at_call 13; refine calls_later (unhide HC _ ((unhide HX8).trans (Later.ext _))))
    | (go_at_call 16; refine calls_later (unhide HN _))
    | (go_at_call 10; refine calls_later (unhide HEQ _ ((unhide HX8).trans (Later.ext _))))))
  refine wpQuiet_nil ?_
  rintro _ ⟨x, rfl⟩
  have hx9 := hide (((unhide HXE).trans (unhide HX8)).trans x.ext)
  generalize x.w = w9 at hx9 ⊢
  go_wp2
  go_ret
  exact ⟨rfl, unhide hx9⟩

set_option maxRecDepth 10000
theorem whole_owes (H : Type) (enc : TypeId × Value → H) (W : World) (base : Nat) (args : Array Value) (ds : List (DataW H)) (p : List MemPlace) : Owes H enc Try.prog 4 Try.f4 Rows.imageWholeSpec W base args ds p := by
  intro hval hA hsz
  rw [Try.params4] at hA hval hsz
  obtain ⟨v0, vs0, d0, ds0, p0, q0, hargs, rfl, rfl, h0, r0⟩ := trodAll_cons hA
  obtain ⟨rfl, rfl, rfl⟩ := trodAll_nil r0
  obtain rfl : args = #[v0] := by cases args; simp_all
  obtain ⟨I, u0, L0, rfl, hI⟩ := open_img (hval 0 24 v0 rfl rfl) h0 (Wgt.arg (j := 0) hsz rfl rfl)
  exact ⟨⟨rfl, rfl, rfl⟩, whole_walk hI⟩

set_option maxRecDepth 100000 in
theorem whole_lifted (os : Os) (started : os.Started) (H : Type) (enc : TypeId × Value → H) :
    ReturnsInHanded {} Try.checked os 4 .any (Rows.imageWholeSpec.pre6 enc Try.prog Try.f4 [] false) (Rows.imageWholeSpec.post enc Try.prog Try.f4 false true false false) :=
  lift_law (C := Try.checked) own laidOut started (by kernel_rfl) Try.func4 (T := 4) rfl Try.underlying4 rfl (by kernel_rfl)
    (ChangeSpec.witness6 (enc := enc) (C := Try.checked) false ⟨#[], #[.agg #[.int .i64 0, .slice none 0 0, .int .i64 0, .int .i64 0, .int .i64 0, .int .i64 0]], []⟩ 8 (by kernel_rfl) (by kernel_rfl) (by kernel_rfl) (by kernel_rfl)) (whole_owes H enc)

theorem imageWhole_holds : Rows.ImageWholeSaid :=
  OpenClaim.holds_of_wide 4 Try.f4 rfl rfl rfl rfl rfl rfl rfl ⟨rfl, rfl, rfl, rfl, rfl⟩ rfl rfl rfl rfl rfl (by kernel_rfl) Try.func4 (by kernel_rfl)
    (of_decide_eq_true (by kernel_rfl)) (by unfold Func.isWrapper; rw [if_neg (of_decide_eq_false (by kernel_rfl))]; exact ⟨rfl, rfl⟩)
    (fun os started H enc _ => whole_lifted os started H enc)
#print axioms imageWhole_holds
end Go.Proofs.Yteenkmacpjmmjab
