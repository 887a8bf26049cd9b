/-
  Proved: ImageMakes answers true for every image and turns nothing that was there.
-/
import Derived.Test.YtpjapdifmfpcnaaRGb
import Derived.Test.YtpjapdifmfpcnaaKY
namespace Go.Proofs.Ytpjapdifmfpcnaa
open Go.ChangeShapes Go.WideShapes Go.ChangeAt Go.RowKit
set_option linter.unusedVariables false
set_option linter.unusedSimpArgs false

/-- What comes of Generate. -/
def gnI (X : Img) : Img := if genE X = 0 then ⟨X.f, genL X, X.ws, X.wt, X.mn, X.mg⟩ else zimg
theorem gen_byt {X : Img} (hb : ∀ p ∈ X.L, Byt p.2.2) : ∀ p ∈ genL X, Byt p.2.2 := by
  intro p hp
  unfold genL chn at hp
  obtain ⟨i, _, rfl⟩ := List.mem_map.1 hp
  refine itL_byt ?_ i
  by_cases h : 0 < X.L.length
  · rw [List.getD_eq_getElem?_getD, List.getElem?_eq_getElem h, Option.getD_some]
    exact hb _ (List.getElem_mem h)
  · rw [List.getD_eq_getElem?_getD, List.getElem?_eq_none (by omega)]
    simp [noLev, Byt]
theorem gnI_byt {X : Img} (hb : ∀ p ∈ X.L, Byt p.2.2) : ∀ p ∈ (gnI X).L, Byt p.2.2 := by
  unfold gnI
  split
  · exact gen_byt hb
  · intro p hp
    simp [zimg] at hp
theorem gnI_len (X : Img) : (gnI X).L.length ≤ 9 := by
  unfold gnI
  split
  · show (genL X).length ≤ 9
    unfold genL
    rw [chn_len]
    have : lgs (X.L.getD 0 noLev).1 (X.L.getD 0 noLev).2.1 ≤ 6 := lg_le _
    omega
  · simp [zimg]
theorem byt_ofP {D : List Ent} {A : List Lev} (h : absL D = A) (hb : ∀ p ∈ A, Byt p.2.2) : ∀ p ∈ D, Byt p.2.2.2 := fun p hp => by
  have := hb (absE p) (by rw [← h]; exact abs_mem hp)
  exact this

section
variable {w : World} {v : Value} {L : List Ent} {I : Img}
theorem gen_all (h : LR w v L) (hL : L.length ≤ 1000) (hA : I.L = absL L) (hbL : ∀ p ∈ L, p.2.2.2.length ≤ 140737488355328) (hby : ∀ p ∈ L, Byt p.2.2.2) :
    Calls Try.prog 16 #[.agg #[.int .i64 I.f, v, .int .i64 I.ws, .int .i64 I.wt, .int .i64 I.mn, .int .i64 I.mg]] w fun e w' => ∃ ao cap L', e = .returned (.tuple #[.agg #[.int .i64 (gnI I).f, .slice ao L'.length cap, .int .i64 (gnI I).ws, .int .i64 (gnI I).wt, .int .i64 (gnI I).mn, .int .i64 (gnI I).mg], .int .i64 (genE I)]) ∧ LO w' w.heap.size (.slice ao L'.length cap) L' ∧ absL L' = (gnI I).L ∧ Ext w w' := by
  by_cases hE : genE I = 0
  · have e : gnI I = ⟨I.f, genL I, I.ws, I.wt, I.mn, I.mg⟩ := if_pos hE
    rw [e, hE]
    exact generate_good h hL hA hbL hby hE
  · have e : gnI I = zimg := if_neg hE
    rw [e]
    refine (generate_bad h hL hA hE).mono ?_
    rintro e w' ⟨rfl, hx⟩
    exact ⟨none, 0, [], rfl, LO.nil _ _, rfl, hx⟩
theorem refGen_all (h : LR w v L) (hL : L.length ≤ 1000) (hA : I.L = absL L) (hbL : ∀ p ∈ L, p.2.2.2.length ≤ 140737488355328) (hby : ∀ p ∈ L, Byt p.2.2.2) :
    Calls Try.prog 17 #[.agg #[.int .i64 I.f, v, .int .i64 I.ws, .int .i64 I.wt, .int .i64 I.mn, .int .i64 I.mg]] w fun e w' => ∃ ao cap L', e = .returned (.tuple #[.agg #[.int .i64 (gnI I).f, .slice ao L'.length cap, .int .i64 (gnI I).ws, .int .i64 (gnI I).wt, .int .i64 (gnI I).mn, .int .i64 (gnI I).mg], .int .i64 (genE I)]) ∧ LO w' w.heap.size (.slice ao L'.length cap) L' ∧ absL L' = (gnI I).L ∧ Ext w w' := by
  by_cases hE : genE I = 0
  · have e : gnI I = ⟨I.f, genL I, I.ws, I.wt, I.mn, I.mg⟩ := if_pos hE
    rw [e, hE]
    exact refGen_good h hL hA hbL hby hE
  · have e : gnI I = zimg := if_neg hE
    rw [e]
    refine (refGen_bad h hL hA hE).mono ?_
    rintro e w' ⟨rfl, hx⟩
    exact ⟨none, 0, [], rfl, LO.nil _ _, rfl, hx⟩
end

set_option maxRecDepth 10000 in
set_option maxHeartbeats 2000000 in
theorem makes_walk {W : World} {I : Img} {v : Value} {L : List Ent} (hI : ImgIn W I v L) :
    Calls Try.prog 4 #[.agg #[.int .i64 I.f, v, .int .i64 I.ws, .int .i64 I.wt, .int .i64 I.mn, .int .i64 I.mg]] W fun e w' => e = .returned (.bool true) ∧ Ext W w' := by
  obtain ⟨ao, cap, rfl, _⟩ := hI.lr.shape
  have H0 := hide (And.intro ((Ext.refl W).alloc (.cells #[.int .i64 I.f, .slice ao L.length cap, .int .i64 I.ws, .int .i64 I.wt, .int .i64 I.mn, .int .i64 I.mg] 24)) (Blk.new W #[.int .i64 I.f, .slice ao L.length cap, .int .i64 I.ws, .int .i64 I.wt, .int .i64 I.mn, .int .i64 I.mg] 24))
  have HI := hide hI
  clear hI
  go_enter Try.func4, Try.ntmps4
  go_wp2_with fail
  generalize W.alloc (.cells #[.int .i64 I.f, .slice ao L.length cap, .int .i64 I.ws, .int .i64 I.wt, .int .i64 I.mn, .int .i64 I.mg] 24) = w0 at H0 ⊢
  refine (wakes_any _).mono ?_
  rintro e w1 ⟨rfl, hx1⟩
  have H1 := hide (And.intro ((unhide H0).1.trans hx1) ((unhide H0).2.ext hx1))
  clear H0 hx1
  obtain ⟨q0, q1, q2, q3, q4, q5⟩ := (unhide H1).2.six
  go_wp2_with fail
  refine (short_in (unhide HI) (unhide H1).1).mono ?_
  rintro e w2 ⟨ao2, cap2, LX, rfl, hlo2, hab2, hx2⟩
  have hB2 := (unhide H1).2.ext hx2
  have hX2 := (unhide H1).1.trans hx2
  clear q0 q1 q2 q3 q4 q5
  obtain ⟨q0, q1, q2, q3, q4, q5⟩ := hB2.six
  obtain ⟨f0, f1, f2, f3, f4, f5⟩ := hB2.frees
  have hM3 := mine_put (unhide HI) hB2 hlo2 hab2
  have hg3 := grown_put6 w2 W.heap.size (.int .i64 I.f) (.slice ao2 LX.length cap2) (.int .i64 I.ws) (.int .i64 I.wt) (.int .i64 I.mn) (.int .i64 I.mg)
  have hX3 : Ext W _ := below_grown hX2 hg3 hX2.size (Nat.le_refl _)
  have H3 := hide (And.intro hM3 hX3)
  clear H1 hlo2 hab2 hx2 hB2 hX2 hM3 hX3 hg3
  go_upto_region 4 with fail
  generalize (((((w2.setCell ⟨W.heap.size, 0, none⟩ (.int .i64 I.f)).setCell ⟨W.heap.size, 1, none⟩ (.slice ao2 LX.length cap2)).setCell ⟨W.heap.size, 2, none⟩ (.int .i64 I.ws)).setCell ⟨W.heap.size, 3, none⟩ (.int .i64 I.wt)).setCell ⟨W.heap.size, 4, none⟩ (.int .i64 I.mn)).setCell ⟨W.heap.size, 5, none⟩ (.int .i64 I.mg) = w3 at H3 ⊢
  have hby := short_byt (abs_byt fun p hp => ((unhide HI).all p hp).2.1)
  rw [← (unhide HI).abs] at hby
  have HBY : Hid (∀ p ∈ (shI I).L, Byt p.2.2) := hby
  clear q0 q1 q2 q3 q4 q5 f0 f1 f2 f3 f4 f5 HI hby
  generalize shI I = X at H3 HBY
  have hL9 := (unhide H3).1.len
  have hXl : X.L.length ≤ 9 := by rw [(unhide H3).1.abs, absL_len]; exact hL9
  have HBL : Hid (∀ p ∈ LX, p.2.2.2.length ≤ 140737488355328) := fun p hp => by have := (unhide H3).1.bys p hp; omega
  obtain ⟨q0, q1, q2, q3, q4, q5⟩ := (unhide H3).1.blk.six
  go_wp2_with fail
  refine (refCopy_any (I := X) (unhide H3).1.lo.lr (by omega) (unhide HBL)).mono ?_
  rintro e w4 ⟨ao4, cap4, LZ, rfl, hlo4, hab4, hx4⟩
  have hx5 := (Ext.refl w4).alloc (.cells #[.int .i64 X.f, .slice ao4 LZ.length cap4, .int .i64 X.ws, .int .i64 X.wt, .int .i64 X.mn, .int .i64 X.mg] 24)
  have H8 := hide (And.intro ((unhide H3).1.ext (hx4.trans hx5)) (And.intro (hlo4.ext hx5) (And.intro (Blk.new w4 #[.int .i64 X.f, .slice ao4 LZ.length cap4, .int .i64 X.ws, .int .i64 X.wt, .int .i64 X.mn, .int .i64 X.mg] 24) ((unhide H3).2.trans (hx4.trans hx5)))))
  have HAZ : Hid (X.L = absL LZ) := by show _ = _; rw [hab4]; exact (unhide H3).1.abs
  have hLZ : LZ.length ≤ 9 := by
    have := congrArg List.length hab4
    rw [absL_len, absL_len] at this
    omega
  have HBLZ : Hid (∀ p ∈ LZ, p.2.2.2.length ≤ 140737488355328) := fun p hp => by
    have h1 := abs_mem hp
    rw [hab4] at h1
    obtain ⟨q, hq, hqe⟩ := List.mem_map.1 h1
    have h2 := (unhide HBL) q hq
    have h3 : q.2.2.2 = p.2.2.2 := congrArg (fun t => t.2.2) hqe
    rw [← h3]
    exact h2
  clear q0 q1 q2 q3 q4 q5 hlo4 hab4 hx4 hx5 H3
  obtain ⟨q0, q1, q2, q3, q4, q5⟩ := (unhide H8).1.blk.six
  go_wp2_with fail
  clear q0 q1 q2 q3 q4 q5
  generalize w4.alloc (.cells #[.int .i64 X.f, .slice ao4 LZ.length cap4, .int .i64 X.ws, .int .i64 X.wt, .int .i64 X.mn, .int .i64 X.mg] 24) = w8 at H8 ⊢
  refine (gen_all (I := X) (unhide H8).1.lo.lr (by omega) (unhide H8).1.abs (unhide HBL) (unhide H8).1.byt).mono ?_
  rintro e w9 ⟨ao9, cap9, LG, rfl, hlo9, hab9, hx9⟩
  have hJl := gnI_len X
  have hJb := gnI_byt (unhide HBY)
  obtain ⟨J, hJ⟩ : ∃ J, J = gnI X := ⟨_, rfl⟩
  obtain ⟨er, her⟩ : ∃ er, er = genE X := ⟨_, rfl⟩
  rw [← hJ] at hab9 hJl hJb ⊢
  rw [← her]
  have HJ := hide (And.intro hJ her)
  clear hJ her
  have hLG : LG.length ≤ 9 := by
    have := congrArg List.length hab9
    rw [absL_len] at this
    omega
  have HJB := hide hJb
  clear hJl hJb
  have hx10 := (Ext.refl w9).alloc (.cells #[.int .i64 J.f, .slice ao9 LG.length cap9, .int .i64 J.ws, .int .i64 J.wt, .int .i64 J.mn, .int .i64 J.mg] 24)
  have hx810 := hx9.trans hx10
  have H10 := hide (And.intro (hlo9.ext hx10) (And.intro hab9 (And.intro (Blk.new w9 #[.int .i64 J.f, .slice ao9 LG.length cap9, .int .i64 J.ws, .int .i64 J.wt, .int .i64 J.mn, .int .i64 J.mg] 24) hx810)))
  obtain ⟨z0, z1, z2, z3, z4, z5⟩ := ((unhide H8).2.2.1.ext hx810).six
  clear hx10 hx810 hlo9 hab9 hx9
  go_wp2_with fail
  clear z0 z1 z2 z3 z4 z5
  generalize w9.alloc (.cells #[.int .i64 J.f, .slice ao9 LG.length cap9, .int .i64 J.ws, .int .i64 J.wt, .int .i64 J.mn, .int .i64 J.mg] 24) = w10 at H10 ⊢
  refine (refGen_all (I := X) ((unhide H8).2.1.lr.ext (unhide H10).2.2.2) (by omega) (unhide HAZ) (unhide HBLZ) (byt_ofP (unhide HAZ).symm (unhide HBY))).mono ?_
  rintro e w11 ⟨ao11, cap11, LW, rfl, hlo11, hab11, hx11⟩
  rw [← (unhide HJ).1] at hab11 ⊢
  rw [← (unhide HJ).2]
  have hx12 := (Ext.refl w11).alloc (.cells #[.int .i64 J.f, .slice ao11 LW.length cap11, .int .i64 J.ws, .int .i64 J.wt, .int .i64 J.mn, .int .i64 J.mg] 24)
  have hx812 := (unhide H10).2.2.2.trans (hx11.trans hx12)
  have H12 := hide (And.intro ((unhide H10).1.ext (hx11.trans hx12)) (And.intro (unhide H10).2.1 (And.intro ((unhide H10).2.2.1.ext (hx11.trans hx12)) (And.intro (hlo11.ext hx12) (And.intro hab11 (And.intro (Blk.new w11 #[.int .i64 J.f, .slice ao11 LW.length cap11, .int .i64 J.ws, .int .i64 J.wt, .int .i64 J.mn, .int .i64 J.mg] 24) hx812))))))
  obtain ⟨g0, g1, g2, g3, g4, g5⟩ := (unhide H12).2.2.1.six
  obtain ⟨t0, t1, t2, t3, t4, t5⟩ := (unhide H12).2.2.2.2.2.1.six
  obtain ⟨q0, q1, q2, q3, q4, q5⟩ := ((unhide H8).1.blk.ext hx812).six
  obtain ⟨z0, z1, z2, z3, z4, z5⟩ := ((unhide H8).2.2.1.ext hx812).six
  clear hx11 hx12 hx812 hlo11 hab11 H10
  go_wp2_with fail
  clear g0 g1 g2 g3 g4 g5 t0 t1 t2 t3 t4 t5 q0 q1 q2 q3 q4 q5 z0 z1 z2 z3 z4 z5
  generalize w11.alloc (.cells #[.int .i64 J.f, .slice ao11 LW.length cap11, .int .i64 J.ws, .int .i64 J.wt, .int .i64 J.mn, .int .i64 J.mg] 24) = w12 at H12 ⊢
  refine (right_any (IG := J) (IW := J) (IF := X) (IZ := X) (e := er) (unhide H12).2.2.2.2.2.2 (unhide H12).1 (unhide H12).2.2.2.1.lr (unhide H8).1.lo.lr (unhide H8).2.1.lr (unhide H12).2.1.symm (unhide H12).2.2.2.2.1.symm (unhide H8).1.abs (unhide HAZ)
    (byt_ofP (unhide H12).2.1 (unhide HJB)) (byt_ofP (unhide H12).2.2.2.2.1 (unhide HJB)) (unhide H8).1.byt (byt_ofP (unhide HAZ).symm (unhide HBY)) (by omega) (same_refl J) (same_refl X)).mono ?_
  rintro e w13 ⟨rfl, hx13⟩
  have HX13 := hide ((unhide H8).2.2.2.trans hx13)
  clear H12 hx13 H8 HJ HJB
  go_wp2
  go_ret
  exact ⟨rfl, unhide HX13⟩

set_option maxRecDepth 10000
theorem makes_owes (H : Type) (enc : TypeId × Value → H) (W : World) (base : Nat) (args : Array Value) (ds : List (DataW H)) (p : List MemPlace) : Owes H enc Try.prog 4 Try.f4 Rows.imageMakesSpec W base args ds p := by
  intro hval hA hsz
  rw [Try.params4] at hA hval hsz
  obtain ⟨v0, vs0, d0, ds0, p0, q0, hargs, rfl, rfl, h0, r0⟩ := trodAll_cons hA
  obtain ⟨rfl, rfl, rfl⟩ := trodAll_nil r0
  obtain rfl : args = #[v0] := by cases args; simp_all
  obtain ⟨I, u0, L0, rfl, hI⟩ := open_img (hval 0 24 v0 rfl rfl) h0 (Wgt.arg (j := 0) hsz rfl rfl)
  exact ⟨⟨rfl, rfl, rfl⟩, makes_walk hI⟩

set_option maxRecDepth 100000 in
theorem makes_lifted (os : Os) (started : os.Started) (H : Type) (enc : TypeId × Value → H) :
    ReturnsInHanded {} Try.checked os 4 .any (Rows.imageMakesSpec.pre6 enc Try.prog Try.f4 [] false) (Rows.imageMakesSpec.post enc Try.prog Try.f4 false true false false) :=
  lift_law (C := Try.checked) own laidOut started (by kernel_rfl) Try.func4 (T := 4) rfl Try.underlying4 rfl (by kernel_rfl)
    (ChangeSpec.witness6 (enc := enc) (C := Try.checked) false ⟨#[], #[.agg #[.int .i64 0, .slice none 0 0, .int .i64 0, .int .i64 0, .int .i64 0, .int .i64 0]], []⟩ 8 (by kernel_rfl) (by kernel_rfl) (by kernel_rfl) (by kernel_rfl)) (makes_owes H enc)

theorem imageMakes_holds : Rows.ImageMakesSaid :=
  OpenClaim.holds_of_wide 4 Try.f4 rfl rfl rfl rfl rfl rfl rfl ⟨rfl, rfl, rfl, rfl, rfl⟩ rfl rfl rfl rfl rfl (by kernel_rfl) Try.func4 (by kernel_rfl)
    (of_decide_eq_true (by kernel_rfl)) (by unfold Func.isWrapper; rw [if_neg (of_decide_eq_false (by kernel_rfl))]; exact ⟨rfl, rfl⟩)
    (fun os started H enc _ => makes_lifted os started H enc)
#print axioms imageMakes_holds
end Go.Proofs.Ytpjapdifmfpcnaa
