/-
  Proved: ImageSame answers true for every two images and turns nothing that was there: Same says what the document says, and a copy is the same.
-/
import Derived.Test.YteenkmacpjmmjaaKX
import Derived.Test.YteenkmacpjmmjaaRD
namespace Go.Proofs.Yteenkmacpjmmjaa
open Go.ChangeShapes Go.WideShapes Go.ChangeAt Go.RowKit
set_option linter.unusedVariables false
set_option linter.unusedSimpArgs false

set_option maxRecDepth 10000 in
set_option maxHeartbeats 2000000 in
theorem same_walk {W : World} {I J : Img} {v u : Value} {L M : List Ent} (hI : ImgIn W I v L) (hJ : ImgIn W J u M) :
    Calls Try.prog 8 #[.agg #[.int .i64 I.f, v, .int .i64 I.ws, .int .i64 I.wt, .int .i64 I.mn, .int .i64 I.mg], .agg #[.int .i64 J.f, u, .int .i64 J.ws, .int .i64 J.wt, .int .i64 J.mn, .int .i64 J.mg]] W fun e w' => e = .returned (.bool true) ∧ Ext W w' := by
  obtain ⟨ao, cap, rfl, _⟩ := hI.lr.shape
  obtain ⟨a2, cp2, rfl, _⟩ := hJ.lr.shape
  have hX0 := ((Ext.refl W).alloc (.cells #[.int .i64 I.f, .slice ao L.length cap, .int .i64 I.ws, .int .i64 I.wt, .int .i64 I.mn, .int .i64 I.mg] 24)).alloc (.cells #[.int .i64 J.f, .slice a2 M.length cp2, .int .i64 J.ws, .int .i64 J.wt, .int .i64 J.mn, .int .i64 J.mg] 24)
  have hA0 := (Blk.new W #[.int .i64 I.f, .slice ao L.length cap, .int .i64 I.ws, .int .i64 I.wt, .int .i64 I.mn, .int .i64 I.mg] 24).alloc (.cells #[.int .i64 J.f, .slice a2 M.length cp2, .int .i64 J.ws, .int .i64 J.wt, .int .i64 J.mn, .int .i64 J.mg] 24)
  have hB0 : Blk ((W.alloc (.cells #[.int .i64 I.f, .slice ao L.length cap, .int .i64 I.ws, .int .i64 I.wt, .int .i64 I.mn, .int .i64 I.mg] 24)).alloc (.cells #[.int .i64 J.f, .slice a2 M.length cp2, .int .i64 J.ws, .int .i64 J.wt, .int .i64 J.mn, .int .i64 J.mg] 24)) (W.heap.size + 1) #[.int .i64 J.f, .slice a2 M.length cp2, .int .i64 J.ws, .int .i64 J.wt, .int .i64 J.mn, .int .i64 J.mg] 24 := Blk.at (by simp)
  have H0 := hide (And.intro hX0 (And.intro hA0 hB0))
  have HI := hide hI
  have HJ := hide hJ
  clear hX0 hA0 hB0 hI hJ
  go_enter Try.func8, Try.ntmps8
  go_wp2_with fail
  generalize (W.alloc (.cells #[.int .i64 I.f, .slice ao L.length cap, .int .i64 I.ws, .int .i64 I.wt, .int .i64 I.mn, .int .i64 I.mg] 24)).alloc (.cells #[.int .i64 J.f, .slice a2 M.length cp2, .int .i64 J.ws, .int .i64 J.wt, .int .i64 J.mn, .int .i64 J.mg] 24) = w0 at H0 ⊢
  refine (wakes_any _).mono ?_
  rintro e w1 ⟨rfl, hx1⟩
  have H1 := hide (And.intro ((unhide H0).1.trans hx1) (And.intro ((unhide H0).2.1.ext hx1) ((unhide H0).2.2.ext hx1)))
  clear H0 hx1
  go_upto_region 3 with fail
  have HC : Hid (∀ wx, Ext w1 wx → (∀ b cs t, Blk w1 b cs t → Blk wx b cs t)) := fun wx hx b cs t h => h.ext hx
  have HC1 : Hid (∀ wx, Ext w1 wx → Calls Try.prog 10 #[.agg #[.int .i64 I.f, .slice ao L.length cap, .int .i64 I.ws, .int .i64 I.wt, .int .i64 I.mn, .int .i64 I.mg]] wx fun e w' => ∃ ao cap D, e = .returned (.agg #[.int .i64 I.f, .slice ao D.length cap, .int .i64 I.ws, .int .i64 I.wt, .int .i64 I.mn, .int .i64 I.mg]) ∧ LO w' w1.heap.size (.slice ao D.length cap) D ∧ absL D = (shI I).L ∧ Ext w1 w') := fun wx hx => by
    refine (short_in (unhide HI) ((unhide H1).1.trans hx)).mono ?_
    rintro e w' ⟨a, c, D, rfl, h1, h2, h3⟩
    exact ⟨a, c, D, rfl, h1.lower hx.size, h2, hx.trans h3⟩
  have HC2 : Hid (∀ wx, Ext w1 wx → Calls Try.prog 10 #[.agg #[.int .i64 J.f, .slice a2 M.length cp2, .int .i64 J.ws, .int .i64 J.wt, .int .i64 J.mn, .int .i64 J.mg]] wx fun e w' => ∃ ao cap D, e = .returned (.agg #[.int .i64 J.f, .slice ao D.length cap, .int .i64 J.ws, .int .i64 J.wt, .int .i64 J.mn, .int .i64 J.mg]) ∧ LO w' w1.heap.size (.slice ao D.length cap) D ∧ absL D = (shI J).L ∧ Ext w1 w' ∧ Ext wx w') := fun wx hx => by
    refine (short_in (unhide HJ) ((unhide H1).1.trans hx)).mono ?_
    rintro e w' ⟨a, c, D, rfl, h1, h2, h3⟩
    exact ⟨a, c, D, rfl, h1.lower hx.size, h2, hx.trans h3, h3⟩
  go_cut [8] (fun p wc => ∃ vA vB LA LB, Mine wc w1.heap.size W.heap.size (shI I) vA LA ∧ Mine wc w1.heap.size (W.heap.size + 1) (shI J) vB LB ∧ Ext W wc)
  case first =>
    obtain ⟨hX1, hA1, hB1⟩ := unhide H1
    obtain ⟨q0, q1, q2, q3, q4, q5⟩ := hA1.six
    obtain ⟨r0, r1, r2, r3, r4, r5⟩ := hB1.six
    clear hX1 hA1 hB1
    go_region_law ((first
      | (go_simp; go_at_call 10; with_reducible refine (unhide HC1 _ (ext_0 w1)).mono ?_; rintro e w3 ⟨ao3, cap3, D3, rfl, hlo3, hab3, hx3⟩; have HA3 := hide ((unhide H1).2.1.ext hx3); have HB3 := hide ((unhide H1).2.2.ext hx3); obtain ⟨k0, k1, k2, k3, k4, k5⟩ := (unhide HA3).six; obtain ⟨m0, m1, m2, m3, m4, m5⟩ := (unhide HB3).six)
      | (go_simp; go_at_call 10; with_reducible refine (unhide HC2 _ hx3).mono ?_; rintro e w4 ⟨ao4, cap4, D4, rfl, hlo4, hab4, hx4, hx34⟩; have HA4 := hide ((unhide H1).2.1.ext hx4); have HB4 := hide ((unhide H1).2.2.ext hx4); clear k0 k1 k2 k3 k4 k5 m0 m1 m2 m3 m4 m5; obtain ⟨k0, k1, k2, k3, k4, k5⟩ := (unhide HA4).six; obtain ⟨m0, m1, m2, m3, m4, m5⟩ := (unhide HB4).six; obtain ⟨f0, f1, f2, f3, f4, f5⟩ := (unhide HA4).frees; obtain ⟨z0, z1, z2, z3, z4, z5⟩ := (unhide HB4).frees)))
    all_goals go_wp2
    all_goals go_meet
    all_goals
      have hA4 := unhide HA4
      have hB4 := unhide HB4
      have hl3 := hlo3.ext hx34
      have hX4 := (unhide H1).1.trans hx4
      have hs4 := hX4.size
      refine ⟨.slice ao3 D3.length cap3, .slice ao4 D4.length cap4, D3, D4, ?ga, ?gb, ?gx⟩
      case ga => exact (mine_put (unhide HI) hA4 hl3 hab3).put (hB4.grown (grown_put6 _ _ _ _ _ _ _ _) (by omega)) (by omega) _ _ _ _ _ _
      case gb => exact mine_put (unhide HJ) (hB4.grown (grown_put6 _ _ _ _ _ _ _ _) (by omega)) (hlo4.grown hA4 ⟨by decide, by decide⟩ (grown_put6 _ _ _ _ _ _ _ _)) hab4
      case gx => exact below_grown (below_grown hX4 (grown_put6 _ _ _ _ _ _ _ _) hs4 (Nat.le_refl _)) (grown_put6 _ _ _ _ _ _ _ _) (by simp; omega) (by omega)
  case rest =>
    obtain ⟨vA, vB, LA, LB, hMA, hMB, hXc⟩ := hcut
    rename_i wc
    obtain ⟨ao3, cap3, rfl, _⟩ := hMA.lo.cut
    obtain ⟨ao4, cap4, rfl, _⟩ := hMB.lo.cut
    clear HC1 HC2 HC H1
    have HMA := hide hMA
    have HMB := hide hMB
    have HXC := hide hXc
    have eI : (shI I).f = I.f ∧ (shI I).ws = I.ws ∧ (shI I).wt = I.wt ∧ (shI I).mn = I.mn ∧ (shI I).mg = I.mg := ⟨rfl, rfl, rfl, rfl, rfl⟩
    have HS1 : Hid (∀ wx, Ext wc wx → Calls Try.prog 34 #[.agg #[.int .i64 (shI I).f, .slice ao3 LA.length cap3, .int .i64 (shI I).ws, .int .i64 (shI I).wt, .int .i64 (shI I).mn, .int .i64 (shI I).mg], .agg #[.int .i64 (shI J).f, .slice ao4 LB.length cap4, .int .i64 (shI J).ws, .int .i64 (shI J).wt, .int .i64 (shI J).mn, .int .i64 (shI J).mg]] wx fun e w' => e = .returned (.bool (sameB (shI I) (shI J))) ∧ Ext wc w') := fun wx hx => by
      refine (same_any (I := shI I) (J := shI J) ((unhide HMA).lo.lr.ext hx) ((unhide HMB).lo.lr.ext hx) (unhide HMA).abs (unhide HMB).abs).mono ?_
      rintro e w' ⟨rfl, h⟩
      exact ⟨rfl, hx.trans h⟩
    have HS2 : Hid (∀ wx, Ext wc wx → Calls Try.prog 20 #[.agg #[.int .i64 (shI I).f, .slice ao3 LA.length cap3, .int .i64 (shI I).ws, .int .i64 (shI I).wt, .int .i64 (shI I).mn, .int .i64 (shI I).mg], .agg #[.int .i64 (shI J).f, .slice ao4 LB.length cap4, .int .i64 (shI J).ws, .int .i64 (shI J).wt, .int .i64 (shI J).mn, .int .i64 (shI J).mg]] wx fun e w' => e = .returned (.bool (sameB (shI I) (shI J))) ∧ Ext wc w') := fun wx hx => by
      refine (refSame_any (I := shI I) (J := shI J) ((unhide HMA).lo.lr.ext hx) ((unhide HMB).lo.lr.ext hx) (unhide HMA).abs (unhide HMB).abs (unhide HMA).byt (unhide HMB).byt).mono ?_
      rintro e w' ⟨rfl, h⟩
      exact ⟨rfl, hx.trans h⟩
    have HS3 : Hid (∀ wx, Ext wc wx → Calls Try.prog 11 #[.agg #[.int .i64 (shI I).f, .slice ao3 LA.length cap3, .int .i64 (shI I).ws, .int .i64 (shI I).wt, .int .i64 (shI I).mn, .int .i64 (shI I).mg]] wx fun e w' => ∃ ao cap D, e = .returned (.agg #[.int .i64 (shI I).f, .slice ao D.length cap, .int .i64 (shI I).ws, .int .i64 (shI I).wt, .int .i64 (shI I).mn, .int .i64 (shI I).mg]) ∧ LR w' (.slice ao D.length cap) D ∧ absL D = (shI I).L ∧ Ext wc w') := fun wx hx => by
      refine (refCopy_any (I := shI I) ((unhide HMA).lo.lr.ext hx) (by have := (unhide HMA).len; omega) (fun p hp => by have := (unhide HMA).bys p hp; omega)).mono ?_
      rintro e w' ⟨ao, cap, D, rfl, h1, h2, h⟩
      exact ⟨ao, cap, D, rfl, h1.lr, by rw [h2, ← (unhide HMA).abs], hx.trans h⟩
    have HS4 : Hid (∀ wx ao cap D, Ext wc wx → LR wx (.slice ao D.length cap) D → absL D = (shI I).L → Calls Try.prog 34 #[.agg #[.int .i64 (shI I).f, .slice ao3 LA.length cap3, .int .i64 (shI I).ws, .int .i64 (shI I).wt, .int .i64 (shI I).mn, .int .i64 (shI I).mg], .agg #[.int .i64 (shI I).f, .slice ao D.length cap, .int .i64 (shI I).ws, .int .i64 (shI I).wt, .int .i64 (shI I).mn, .int .i64 (shI I).mg]] wx fun e w' => e = .returned (.bool true) ∧ Ext wc w') := fun wx ao cap D hx h1 h2 => by
      refine (same_any (I := shI I) (J := shI I) ((unhide HMA).lo.lr.ext hx) h1 (unhide HMA).abs h2.symm).mono ?_
      rintro e w' ⟨rfl, h⟩
      exact ⟨by rw [same_refl], hx.trans h⟩
    obtain ⟨q0, q1, q2, q3, q4, q5⟩ := (unhide HMA).blk.six
    obtain ⟨r0, r1, r2, r3, r4, r5⟩ := (unhide HMB).blk.six
    clear hMA hMB hXc eI
    have HK : Hid (∀ w', Ext wc w' → w'.cell? ⟨W.heap.size, 0, none⟩ = some (.int .i64 (shI I).f) ∧ w'.cell? ⟨W.heap.size, 1, none⟩ = some (.slice ao3 LA.length cap3) ∧ w'.cell? ⟨W.heap.size, 2, none⟩ = some (.int .i64 (shI I).ws) ∧ w'.cell? ⟨W.heap.size, 3, none⟩ = some (.int .i64 (shI I).wt) ∧ w'.cell? ⟨W.heap.size, 4, none⟩ = some (.int .i64 (shI I).mn) ∧ w'.cell? ⟨W.heap.size, 5, none⟩ = some (.int .i64 (shI I).mg) ∧ w'.cell? ⟨W.heap.size + 1, 0, none⟩ = some (.int .i64 (shI J).f) ∧ w'.cell? ⟨W.heap.size + 1, 1, none⟩ = some (.slice ao4 LB.length cap4) ∧ w'.cell? ⟨W.heap.size + 1, 2, none⟩ = some (.int .i64 (shI J).ws) ∧ w'.cell? ⟨W.heap.size + 1, 3, none⟩ = some (.int .i64 (shI J).wt) ∧ w'.cell? ⟨W.heap.size + 1, 4, none⟩ = some (.int .i64 (shI J).mn) ∧ w'.cell? ⟨W.heap.size + 1, 5, none⟩ = some (.int .i64 (shI J).mg)) := fun w' hx => by
      obtain ⟨q0, q1, q2, q3, q4, q5⟩ := ((unhide HMA).blk.ext hx).six
      obtain ⟨r0, r1, r2, r3, r4, r5⟩ := ((unhide HMB).blk.ext hx).six
      exact ⟨q0, q1, q2, q3, q4, q5, r0, r1, r2, r3, r4, r5⟩
    clear q0 q1 q2 q3 q4 q5 r0 r1 r2 r3 r4 r5
    go_upto_region 4 with fail
    go_region_held3 (fun w' => w'.cell? ⟨W.heap.size, 0, none⟩ = some (.int .i64 (shI I).f) ∧ w'.cell? ⟨W.heap.size, 1, none⟩ = some (.slice ao3 LA.length cap3) ∧ w'.cell? ⟨W.heap.size, 2, none⟩ = some (.int .i64 (shI I).ws) ∧ w'.cell? ⟨W.heap.size, 3, none⟩ = some (.int .i64 (shI I).wt) ∧ w'.cell? ⟨W.heap.size, 4, none⟩ = some (.int .i64 (shI I).mn) ∧ w'.cell? ⟨W.heap.size, 5, none⟩ = some (.int .i64 (shI I).mg) ∧ w'.cell? ⟨W.heap.size + 1, 0, none⟩ = some (.int .i64 (shI J).f) ∧ w'.cell? ⟨W.heap.size + 1, 1, none⟩ = some (.slice ao4 LB.length cap4) ∧ w'.cell? ⟨W.heap.size + 1, 2, none⟩ = some (.int .i64 (shI J).ws) ∧ w'.cell? ⟨W.heap.size + 1, 3, none⟩ = some (.int .i64 (shI J).wt) ∧ w'.cell? ⟨W.heap.size + 1, 4, none⟩ = some (.int .i64 (shI J).mn) ∧ w'.cell? ⟨W.heap.size + 1, 5, none⟩ = some (.int .i64 (shI J).mg))
      (first | with_reducible exact unhide HK _ bx | with_reducible exact unhide HK _ (ext_0 wc))
      (first
        | (go_at_call 34; with_reducible refine (unhide HS1 _ (ext_0 wc)).mono ?_; rintro e w3 ⟨rfl, hx3⟩; have bx := hx3)
        | (go_at_call 20; with_reducible refine (unhide HS2 _ bx).mono ?_; rintro e w4 ⟨rfl, hx4⟩; have bx := hx4)
        | (go_at_call 11; with_reducible refine (unhide HS3 _ bx).mono ?_; rintro e w5 ⟨ao5, cap5, D5, rfl, hl5, ha5, hx5⟩; have bx := hx5)
        | (go_at_call 34; with_reducible refine (unhide HS4 _ _ _ _ bx hl5 ha5).mono ?_; rintro e w6 ⟨rfl, hx6⟩; have bx := hx6))
    all_goals
      go_wp2
      go_ret
      exact ⟨rfl, (unhide HXC).trans hx6⟩

set_option maxRecDepth 10000
theorem same_owes (H : Type) (enc : TypeId × Value → H) (W : World) (base : Nat) (args : Array Value) (ds : List (DataW H)) (p : List MemPlace) : Owes H enc Try.prog 8 Try.f8 Rows.imageSameSpec W base args ds p := by
  intro hval hA hsz
  rw [Try.params8] at hA hval hsz
  obtain ⟨v0, vs0, d0, ds0, p0, q0, hargs, rfl, rfl, h0, r0⟩ := trodAll_cons hA
  obtain ⟨v1, vs1, d1, ds1, p1, q1, rfl, rfl, rfl, h1, r1⟩ := trodAll_cons r0
  obtain ⟨rfl, rfl, rfl⟩ := trodAll_nil r1
  obtain rfl : args = #[v0, v1] := by cases args; simp_all
  obtain ⟨I, u0, L0, rfl, hI⟩ := open_img (hval 0 24 v0 rfl rfl) h0 (Wgt.arg (j := 0) hsz rfl rfl)
  obtain ⟨J, u1, L1, rfl, hJ⟩ := open_img (hval 1 24 v1 rfl rfl) h1 (Wgt.arg (j := 1) hsz rfl rfl)
  exact ⟨⟨rfl, rfl, rfl⟩, same_walk hI hJ⟩

set_option maxRecDepth 100000 in
theorem same_lifted (os : Os) (started : os.Started) (H : Type) (enc : TypeId × Value → H) :
    ReturnsInHanded {} Try.checked os 8 .any (Rows.imageSameSpec.pre6 enc Try.prog Try.f8 [] false) (Rows.imageSameSpec.post enc Try.prog Try.f8 false true false false) :=
  lift_law (C := Try.checked) own laidOut started (by kernel_rfl) Try.func8 (T := 4) rfl Try.underlying4 rfl (by kernel_rfl)
    (ChangeSpec.witness6 (enc := enc) (C := Try.checked) false ⟨#[], #[.agg #[.int .i64 0, .slice none 0 0, .int .i64 0, .int .i64 0, .int .i64 0, .int .i64 0], .agg #[.int .i64 0, .slice none 0 0, .int .i64 0, .int .i64 0, .int .i64 0, .int .i64 0]], []⟩ 8 (by kernel_rfl) (by kernel_rfl) (by kernel_rfl) (by kernel_rfl)) (same_owes H enc)

theorem imageSame_holds : Rows.ImageSameSaid :=
  OpenClaim.holds_of_wide 8 Try.f8 rfl rfl rfl rfl rfl rfl rfl ⟨rfl, rfl, rfl, rfl, rfl⟩ rfl rfl rfl rfl rfl (by kernel_rfl) Try.func8 (by kernel_rfl)
    (of_decide_eq_true (by kernel_rfl)) (by unfold Func.isWrapper; rw [if_neg (of_decide_eq_false (by kernel_rfl))]; exact ⟨rfl, rfl⟩)
    (fun os started H enc _ => same_lifted os started H enc)
#print axioms imageSame_holds
end Go.Proofs.Yteenkmacpjmmjaa
