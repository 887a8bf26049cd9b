/-
  Proved: SampleAts answers true for every image and place and turns nothing that was there: the colour of whatever image at whatever place and lod is as the rule computes it, or refused.
-/
import Derived.Test.YtadajaoidhbmgaaFrS
import Derived.Test.YtadajaoidhbmgaaRE
import Derived.Test.YtadajaoidhbmgaaSO
namespace Go.Proofs.Ytadajaoidhbmgaa
open Go.ChangeShapes Go.WideShapes Go.ChangeAt Go.RowKit
set_option linter.unusedVariables false
set_option linter.unusedSimpArgs false

theorem byt_abs {D L : List Ent} (h : absL D = absL L) (hb : ∀ p ∈ L, Byt p.2.2.2) : ∀ p ∈ D, Byt p.2.2.2 := fun p hp => by
  have h1 : absE p ∈ absL D := List.mem_map.2 ⟨p, hp, rfl⟩
  rw [h] at h1
  obtain ⟨q, hq, e⟩ := List.mem_map.1 h1
  have e2 : q.2.2.2 = p.2.2.2 := congrArg (fun t => t.2.2) e
  rw [← e2]
  exact hb q hq
set_option maxRecDepth 10000 in
set_option maxHeartbeats 4000000 in
theorem ats_walk {W : World} {I : Img} {v : Value} {L : List Ent} (hI : ImgIn W I v L) (u q lod lv i j : Int) (hu : I32 u) (hq : I32 q) (hl : I32 lod) :
    Calls Try.prog 4 #[.agg #[.int .i64 I.f, v, .int .i64 I.ws, .int .i64 I.wt, .int .i64 I.mn, .int .i64 I.mg], .agg #[.int .i32 u, .int .i32 q, .int .i32 lod, .int .i64 lv, .int .i64 i, .int .i64 j]] W fun e w' => e = .returned (.bool true) ∧ Ext W w' := by
  obtain ⟨ao, cap, rfl, _⟩ := hI.lr.shape
  have hEQ := eqV
  have hBY : ∀ p ∈ L, Byt p.2.2.2 := fun p hp => (hI.all p hp).2.1
  have HBY := hide hBY
  have H0 := hide (And.intro (((Ext.refl W).alloc (.cells #[.int .i64 I.f, .slice ao L.length cap, .int .i64 I.ws, .int .i64 I.wt, .int .i64 I.mn, .int .i64 I.mg] 24)).alloc (.cells #[.int .i32 u, .int .i32 q, .int .i32 lod, .int .i64 lv, .int .i64 i, .int .i64 j] 27)) (And.intro ((Blk.new W #[.int .i64 I.f, .slice ao L.length cap, .int .i64 I.ws, .int .i64 I.wt, .int .i64 I.mn, .int .i64 I.mg] 24).alloc (.cells #[.int .i32 u, .int .i32 q, .int .i32 lod, .int .i64 lv, .int .i64 i, .int .i64 j] 27)) (show Blk ((W.alloc (.cells #[.int .i64 I.f, .slice ao L.length cap, .int .i64 I.ws, .int .i64 I.wt, .int .i64 I.mn, .int .i64 I.mg] 24)).alloc (.cells #[.int .i32 u, .int .i32 q, .int .i32 lod, .int .i64 lv, .int .i64 i, .int .i64 j] 27)) (W.heap.size + 1) #[.int .i32 u, .int .i32 q, .int .i32 lod, .int .i64 lv, .int .i64 i, .int .i64 j] 27 from Blk.at (by simp))))
  have HI := hide hI
  have HU := hide (And.intro hu (And.intro hq hl))
  clear hI hBY hu hq hl
  go_enter Try.func4, Try.ntmps4
  go_wp2_with fail
  generalize (W.alloc (.cells #[.int .i64 I.f, .slice ao L.length cap, .int .i64 I.ws, .int .i64 I.wt, .int .i64 I.mn, .int .i64 I.mg] 24)).alloc (.cells #[.int .i32 u, .int .i32 q, .int .i32 lod, .int .i64 lv, .int .i64 i, .int .i64 j] 27) = w0 at H0 ⊢
  refine (wakes_any _).mono ?_
  rintro e w1 ⟨rfl, hx1⟩
  have HB := hide (And.intro ((unhide H0).2.1.ext hx1) (And.intro ((unhide H0).2.2.ext hx1) ((unhide H0).1.trans hx1)))
  clear H0 hx1
  go_upto_region 3 with fail
  have HCL : Hid (∀ wx, Ext w1 wx → (wx.cell? ⟨W.heap.size, 0, none⟩ = some (.int .i64 I.f) ∧ wx.cell? ⟨W.heap.size, 1, none⟩ = some (.slice ao L.length cap) ∧ wx.cell? ⟨W.heap.size, 2, none⟩ = some (.int .i64 I.ws) ∧ wx.cell? ⟨W.heap.size, 3, none⟩ = some (.int .i64 I.wt) ∧ wx.cell? ⟨W.heap.size, 4, none⟩ = some (.int .i64 I.mn) ∧ wx.cell? ⟨W.heap.size, 5, none⟩ = some (.int .i64 I.mg)) ∧ (wx.cell? ⟨W.heap.size + 1, 0, none⟩ = some (.int .i32 u) ∧ wx.cell? ⟨W.heap.size + 1, 1, none⟩ = some (.int .i32 q) ∧ wx.cell? ⟨W.heap.size + 1, 2, none⟩ = some (.int .i32 lod) ∧ wx.cell? ⟨W.heap.size + 1, 3, none⟩ = some (.int .i64 lv) ∧ wx.cell? ⟨W.heap.size + 1, 4, none⟩ = some (.int .i64 i) ∧ wx.cell? ⟨W.heap.size + 1, 5, none⟩ = some (.int .i64 j))) := fun wx hx => ⟨((unhide HB).1.ext hx).six, ((unhide HB).2.1.ext hx).six⟩
  have HCP : Hid (∀ wx, Ext w1 wx → Calls Try.prog 7 #[.agg #[.int .i64 I.f, .slice ao L.length cap, .int .i64 I.ws, .int .i64 I.wt, .int .i64 I.mn, .int .i64 I.mg]] wx fun e w' => ∃ ao cap D, e = .returned (.agg #[.int .i64 I.f, .slice ao D.length cap, .int .i64 I.ws, .int .i64 I.wt, .int .i64 I.mn, .int .i64 I.mg]) ∧ LO w' wx.heap.size (.slice ao D.length cap) D ∧ absL D = absL L ∧ Ext wx w') := fun wx hx => refCopy_any (I := I) ((unhide HI).lr.ext ((unhide HB).2.2.trans hx)) (unhide HI).len (fun p hp => by have := ((unhide HI).all p hp).2.2.1; omega)
  have HF : Hid (∀ wx v D, LR wx v D → absL D = absL L → Calls Try.prog 13 #[.agg #[.int .i64 I.f, v, .int .i64 I.ws, .int .i64 I.wt, .int .i64 I.mn, .int .i64 I.mg], .int .i32 u, .int .i32 q, .int .i32 lod] wx fun e w' => e = .returned (.tuple #[.agg #[.int .i32 ((atV I u q lod) 0), .int .i32 ((atV I u q lod) 1), .int .i32 ((atV I u q lod) 2), .int .i32 ((atV I u q lod) 3)], .int .i64 (atE I)]) ∧ Ext wx w') := fun wx v D hl ha => at_any hl (by have := congrArg List.length ha; rw [absL_len, absL_len] at this; have := (unhide HI).len; omega) ((unhide HI).abs.trans ha.symm) (byt_abs ha (unhide HBY)) u q lod (unhide HU).1 (unhide HU).2.1 (unhide HU).2.2
  go_cut [5, 6] (fun p er wc => ∃ r, p = .pointer (some ⟨r, 0, none⟩) ∧ er = .int .i64 (atE I) ∧ Blk wc r #[.int .i32 ((atV I u q lod) 0), .int .i32 ((atV I u q lod) 1), .int .i32 ((atV I u q lod) 2), .int .i32 ((atV I u q lod) 3)] 30 ∧ Ext w1 wc)
  case first =>
    go_region_held3 (fun wx => (wx.cell? ⟨W.heap.size, 0, none⟩ = some (.int .i64 I.f) ∧ wx.cell? ⟨W.heap.size, 1, none⟩ = some (.slice ao L.length cap) ∧ wx.cell? ⟨W.heap.size, 2, none⟩ = some (.int .i64 I.ws) ∧ wx.cell? ⟨W.heap.size, 3, none⟩ = some (.int .i64 I.wt) ∧ wx.cell? ⟨W.heap.size, 4, none⟩ = some (.int .i64 I.mn) ∧ wx.cell? ⟨W.heap.size, 5, none⟩ = some (.int .i64 I.mg)) ∧ (wx.cell? ⟨W.heap.size + 1, 0, none⟩ = some (.int .i32 u) ∧ wx.cell? ⟨W.heap.size + 1, 1, none⟩ = some (.int .i32 q) ∧ wx.cell? ⟨W.heap.size + 1, 2, none⟩ = some (.int .i32 lod) ∧ wx.cell? ⟨W.heap.size + 1, 3, none⟩ = some (.int .i64 lv) ∧ wx.cell? ⟨W.heap.size + 1, 4, none⟩ = some (.int .i64 i) ∧ wx.cell? ⟨W.heap.size + 1, 5, none⟩ = some (.int .i64 j)))
      (first | with_reducible exact unhide HCL _ bx | with_reducible exact unhide HCL _ (bx.alloc _) | with_reducible exact unhide HCL _ (ext_0 w1) | with_reducible exact unhide HCL _ (ext_1 w1 _) | with_reducible exact unhide HCL _ (ext_put4 bx (by omega)))
      (first
        | (go_at_call 7; refine (unhide HCP _ (by first | with_reducible exact ext_0 w1 | with_reducible exact ext_1 w1 _)).mono ?_; rintro e ws ⟨ao2, cap2, D2, rfl, hlo, hab, hxs⟩; have bx : Ext w1 ws := (by first | with_reducible exact (ext_0 w1).trans hxs | exact (ext_1 w1 _).trans hxs); have szs := bx.size; have HF2 := hide (fun wx (hx : Ext ws wx) => unhide HF wx _ _ (hlo.lr.ext hx) hab); (first | (have RB := hide (blk_1 w1 _ _ hxs); obtain ⟨r0, r1, r2, r3⟩ := (unhide RB).four; obtain ⟨z0, z1, z2, z3, _⟩ := (unhide RB).frees) | skip); clear hlo hab hxs)
        | (go_at_call 13; refine (unhide HF2 _ (by first | with_reducible exact Ext.refl _ | with_reducible exact (Ext.refl _).alloc _)).mono ?_; rintro e wt ⟨rfl, hxt⟩; have bx : Ext w1 wt := (by first | with_reducible exact bx.trans hxt | exact (bx.alloc _).trans hxt); have szt := bx.size; (first | (have RB := hide ((unhide RB).ext hxt); obtain ⟨r0, r1, r2, r3⟩ := (unhide RB).four; obtain ⟨z0, z1, z2, z3, _⟩ := (unhide RB).frees) | (have RB := hide (blk_0 _ _ _ hxt); obtain ⟨r0, r1, r2, r3⟩ := (unhide RB).four; obtain ⟨z0, z1, z2, z3, _⟩ := (unhide RB).frees) | skip); clear hxt))
    all_goals go_wp2
    all_goals go_meet
    all_goals
      refine ⟨_, rfl, rfl, ?gb, ?gx⟩
      case gb => first | (with_reducible exact Blk.new _ _ _) | (with_reducible exact (unhide RB).put4 _ _ _ _)
      case gx => first | (with_reducible exact bx.alloc _) | (with_reducible exact ext_put4 bx (by omega))
  case rest =>
  obtain ⟨r, rfl, rfl, hV, hx2⟩ := hcut
  clear HCL HCP HF
  have HB2 := hide (And.intro ((unhide HB).1.ext hx2) (And.intro ((unhide HB).2.1.ext hx2) (And.intro hV ((unhide HB).2.2.trans hx2))))
  clear HB hV hx2
  obtain ⟨q0, q1, q2, q3, q4, q5⟩ := (unhide HB2).1.six
  go_wp2_with fail
  refine (refRight_any (I := I) ((unhide HI).lr.ext (unhide HB2).2.2.2) (unhide HI).abs).mono ?_
  rintro e w4 ⟨rfl, hx3⟩
  have HB4 := hide (And.intro ((unhide HB2).1.ext hx3) (And.intro ((unhide HB2).2.1.ext hx3) (And.intro ((unhide HB2).2.2.1.ext hx3) ((unhide HB2).2.2.2.trans hx3))))
  clear HB2 hx3 q0 q1 q2 q3 q4 q5
  obtain ⟨q0, q1, q2, q3, q4, q5⟩ := (unhide HB4).1.six
  obtain ⟨p0, p1, p2, p3, p4, p5⟩ := (unhide HB4).2.1.six
  obtain ⟨v0, v1, v2, v3⟩ := (unhide HB4).2.2.1.vecs
  cases hok : okB (sizI I.f) I with
  | false =>
    have e1 : atE I = 180 := by unfold atE; rw [if_pos hok]
    have e2 : atV I u q lod = nul := by unfold atV; rw [if_pos hok]
    rw [e2] at v0 v1 v2 v3
    rw [e1]
    simp only [nul] at v0 v1 v2 v3
    clear e1 e2 hok
    go_wp2
    go_ret
    exact ⟨rfl, (unhide HB4).2.2.2⟩
  | true =>
  have e1 : atE I = 0 := by unfold atE; rw [hok, if_neg (by simp)]
  have e2 : atV I u q lod = atI I u q lod := by unfold atV; rw [hok, if_neg (by simp)]
  rw [e2] at v0 v1 v2 v3
  rw [e1]
  have HOK := hide hok
  clear e1 e2 hok
  have kq0 := cell_later q0
  have kq1 := cell_later q1
  have kq2 := cell_later q2
  have kq3 := cell_later q3
  have kq4 := cell_later q4
  have kq5 := cell_later q5
  have kp0 := cell_later p0
  have kp1 := cell_later p1
  have kp2 := cell_later p2
  have kp3 := cell_later p3
  have kv0 := cell_later v0
  have kv1 := cell_later v1
  have kv2 := cell_later v2
  have kv3 := cell_later v3
  have hsome := Later.some w4
  clear q0 q1 q2 q3 q4 q5 p0 p1 p2 p3 p4 p5 v0 v1 v2 v3
  have HXE := hide (unhide HB4).2.2.2
  have HT : Hid (∀ wx, Ext w4 wx → Calls Try.prog 14 #[.agg #[.int .i64 I.f, .slice ao L.length cap, .int .i64 I.ws, .int .i64 I.wt, .int .i64 I.mn, .int .i64 I.mg], .int .i32 u, .int .i32 q, .int .i32 lod] wx fun e w' => e = .returned (.agg #[.int .i32 ((atI I u q lod) 0), .int .i32 ((atI I u q lod) 1), .int .i32 ((atI I u q lod) 2), .int .i32 ((atI I u q lod) 3)]) ∧ Ext wx w') := fun wx hx => refAt_any (I := I) ((unhide HI).lr.ext ((unhide HXE).trans hx)) (unhide HI).abs (unhide HBY) (unhide HOK) u q lod (unhide HU).1 (unhide HU).2.1 (unhide HU).2.2
  generalize atI I u q lod = V at *
  go_upto_region 6 with fail
  refine wp_region_later (by kernel_rfl) (by kernel_rfl) ?_
  repeat (go_big_quiet_step (first
    | (go_at_call 14; refine calls_later (unhide HT _ (Later.ext _)))))
  refine wpQuiet_nil ?_
  rintro _ ⟨x, rfl⟩
  have hx12 := hide ((unhide HXE).trans x.ext)
  generalize x.w = w12 at hx12 ⊢
  go_wp2
  go_ret
  exact ⟨by simp, unhide hx12⟩

set_option maxRecDepth 10000
theorem ats_owes (H : Type) (enc : TypeId × Value → H) (W : World) (base : Nat) (args : Array Value) (ds : List (DataW H)) (p : List MemPlace) : Owes H enc Try.prog 4 Try.f4 Rows.sampleAtsSpec W base args ds p := by
  intro hval hA hsz
  rw [Try.params4] at hA hval hsz
  obtain ⟨v0, vs0, d0, ds0, p0, q0, hargs, rfl, rfl, h0, r0⟩ := trodAll_cons hA
  obtain ⟨v1, vs1, d1, ds1, p1, q1, rfl, rfl, rfl, h1, r1⟩ := trodAll_cons r0
  obtain ⟨rfl, rfl, rfl⟩ := trodAll_nil r1
  obtain rfl : args = #[v0, v1] := by cases args; simp_all
  obtain ⟨I, u0, L0, rfl, hI⟩ := open_img (hval 0 24 v0 rfl rfl) h0 (Wgt.arg (j := 0) hsz rfl rfl)
  obtain ⟨u, q, lod, lv, i, j, rfl, hu, hq, hl, _, _, _⟩ := open_at (hval 1 27 v1 rfl rfl) h1
  exact ⟨⟨rfl, rfl, rfl⟩, ats_walk hI u q lod lv i j hu hq hl⟩

set_option maxRecDepth 100000 in
theorem ats_lifted (os : Os) (started : os.Started) (H : Type) (enc : TypeId × Value → H) :
    ReturnsInHanded {} Try.checked os 4 .any (Rows.sampleAtsSpec.pre6 enc Try.prog Try.f4 [] false) (Rows.sampleAtsSpec.post enc Try.prog Try.f4 false true false false) :=
  lift_law (C := Try.checked) own laidOut started (by kernel_rfl) Try.func4 (T := 4) rfl Try.underlying4 rfl (by kernel_rfl)
    (ChangeSpec.witness6 (enc := enc) (C := Try.checked) false ⟨#[], #[.agg #[.int .i64 0, .slice none 0 0, .int .i64 0, .int .i64 0, .int .i64 0, .int .i64 0], .agg #[.int .i32 0, .int .i32 0, .int .i32 0, .int .i64 0, .int .i64 0, .int .i64 0]], []⟩ 8 (by kernel_rfl) (by kernel_rfl) (by kernel_rfl) (by kernel_rfl)) (ats_owes H enc)

theorem sampleAts_holds : Rows.SampleAtsSaid :=
  OpenClaim.holds_of_wide 4 Try.f4 rfl rfl rfl rfl rfl rfl rfl ⟨rfl, rfl, rfl, rfl, rfl⟩ rfl rfl rfl rfl rfl (by kernel_rfl) Try.func4 (by kernel_rfl)
    (of_decide_eq_true (by kernel_rfl)) (by unfold Func.isWrapper; rw [if_neg (of_decide_eq_false (by kernel_rfl))]; exact ⟨rfl, rfl⟩)
    (fun os started H enc _ => ats_lifted os started H enc)
#print axioms sampleAts_holds
end Go.Proofs.Ytadajaoidhbmgaa
