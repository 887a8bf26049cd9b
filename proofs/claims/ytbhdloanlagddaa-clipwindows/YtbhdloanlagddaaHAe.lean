/-
  Corners: the walks of lay, Area and between. What the dump lacks is left out.
-/
import Derived.Test.YtbhdloanlagddaaHAd
import Derived.Deep.DeepCutAuto
import Derived.BigQuiet
namespace Go.Proofs.Ytbhdloanlagddaa
open Go.RowKit
set_option linter.unusedVariables false
set_option linter.unusedSimpArgs false

theorem shr1 {s : Int} (h : 0 ≤ s ∧ s ≤ 131072) : I32 (s / 2) := by unfold I32; omega
theorem below_set6 {B : Nat} {w0 w1 : World} {b : Nat} {x0 x1 x2 x3 x4 x5 : Value} (h : Below B w0 w1) (hs : B ≤ w1.heap.size) (hb : B ≤ b := by omega) : Below B w0 ((((((w1.setCell ⟨b, 0, none⟩ x0).setCell ⟨b, 1, none⟩ x1).setCell ⟨b, 2, none⟩ x2).setCell ⟨b, 3, none⟩ x3).setCell ⟨b, 4, none⟩ x4).setCell ⟨b, 5, none⟩ x5) :=
  below_grown h (grown_set6 w1 b x0 x1 x2 x3 x4 x5) hs hb
/-- What lay answers. -/
def LyQ (v : Vw) (x : Vt) (w : World) (e : Ending) (w' : World) : Prop := ∃ u', e = .returned (.agg #[.int .i64 (Wn.x (layW v x)), .int .i64 (Wn.y (layW v x)), .int .i32 (Wn.z (layW v x)), .int .i32 (Wn.w (layW v x)), .int .i32 (Wn.s (layW v x)), u']) ∧ ClQ w x.vs u' w'
set_option maxRecDepth 10000 in
set_option maxHeartbeats 8000000 in
theorem layC_any (v : Vw) (x : Vt) (u : Value) (w : World) (h : VQ w u x.vs) (hm : x.vs.length ≤ 1000000) (hv : vwOk v = true) (hI : Vt32 x) :
    Calls Try.prog 33 #[.agg #[.int .i64 (Vw.X v), .int .i64 (Vw.Y v), .int .i64 (Vw.W v), .int .i64 (Vw.H v), .int .i32 (Vw.Nr v), .int .i32 (Vw.Fr v)], .agg #[.int .i32 (Vt.p x 0), .int .i32 (Vt.p x 1), .int .i32 (Vt.p x 2), .int .i32 (Vt.p x 3), .int .i32 (Vt.s x), u]] w (LyQ v x w) := by
  obtain ⟨ao, cap, rfl, _⟩ := id h
  have hvb : 0 ≤ v.X ∧ v.X ≤ 64 ∧ 0 ≤ v.W ∧ v.W ≤ 64 ∧ v.X + v.W ≤ 64 ∧ 0 ≤ v.Y ∧ v.Y ≤ 64 ∧ 0 ≤ v.H ∧ v.H ≤ 64 ∧ v.Y + v.H ≤ 64 ∧ 0 ≤ v.Nr ∧ v.Nr ≤ 65536 ∧ 0 ≤ v.Fr ∧ v.Fr ≤ 65536 := by simpa [vwOk] using hv
  have hV : Blk (((w.alloc (.cells #[.int .i64 (Vw.X v), .int .i64 (Vw.Y v), .int .i64 (Vw.W v), .int .i64 (Vw.H v), .int .i32 (Vw.Nr v), .int .i32 (Vw.Fr v)] 24)).alloc (.cells #[.int .i32 (Vt.p x 0), .int .i32 (Vt.p x 1), .int .i32 (Vt.p x 2), .int .i32 (Vt.p x 3), .int .i32 (Vt.s x), .slice ao x.vs.length cap] 29)).alloc (.cells #[.int .i64 0, .int .i64 0, .int .i32 0, .int .i32 0, .int .i32 0, .slice none 0 0] 44)) w.heap.size #[.int .i64 (Vw.X v), .int .i64 (Vw.Y v), .int .i64 (Vw.W v), .int .i64 (Vw.H v), .int .i32 (Vw.Nr v), .int .i32 (Vw.Fr v)] 24 := ((Blk.new _ _ _).alloc _).alloc _
  have hP : Blk (((w.alloc (.cells #[.int .i64 (Vw.X v), .int .i64 (Vw.Y v), .int .i64 (Vw.W v), .int .i64 (Vw.H v), .int .i32 (Vw.Nr v), .int .i32 (Vw.Fr v)] 24)).alloc (.cells #[.int .i32 (Vt.p x 0), .int .i32 (Vt.p x 1), .int .i32 (Vt.p x 2), .int .i32 (Vt.p x 3), .int .i32 (Vt.s x), .slice ao x.vs.length cap] 29)).alloc (.cells #[.int .i64 0, .int .i64 0, .int .i32 0, .int .i32 0, .int .i32 0, .slice none 0 0] 44)) (w.heap.size + 1) #[.int .i32 (Vt.p x 0), .int .i32 (Vt.p x 1), .int .i32 (Vt.p x 2), .int .i32 (Vt.p x 3), .int .i32 (Vt.s x), .slice ao x.vs.length cap] 29 := (Blk.at (by simp)).alloc _
  have hC : Blk (((w.alloc (.cells #[.int .i64 (Vw.X v), .int .i64 (Vw.Y v), .int .i64 (Vw.W v), .int .i64 (Vw.H v), .int .i32 (Vw.Nr v), .int .i32 (Vw.Fr v)] 24)).alloc (.cells #[.int .i32 (Vt.p x 0), .int .i32 (Vt.p x 1), .int .i32 (Vt.p x 2), .int .i32 (Vt.p x 3), .int .i32 (Vt.s x), .slice ao x.vs.length cap] 29)).alloc (.cells #[.int .i64 0, .int .i64 0, .int .i32 0, .int .i32 0, .int .i32 0, .slice none 0 0] 44)) (w.heap.size + 1 + 1) #[.int .i64 0, .int .i64 0, .int .i32 0, .int .i32 0, .int .i32 0, .slice none 0 0] 44 := Blk.at (by simp)
  have hX : Ext w (((w.alloc (.cells #[.int .i64 (Vw.X v), .int .i64 (Vw.Y v), .int .i64 (Vw.W v), .int .i64 (Vw.H v), .int .i32 (Vw.Nr v), .int .i32 (Vw.Fr v)] 24)).alloc (.cells #[.int .i32 (Vt.p x 0), .int .i32 (Vt.p x 1), .int .i32 (Vt.p x 2), .int .i32 (Vt.p x 3), .int .i32 (Vt.s x), .slice ao x.vs.length cap] 29)).alloc (.cells #[.int .i64 0, .int .i64 0, .int .i32 0, .int .i32 0, .int .i32 0, .slice none 0 0] 44)) := (((Ext.refl w).alloc _).alloc _).alloc _
  have hsz : w.heap.size + 3 ≤ (((w.alloc (.cells #[.int .i64 (Vw.X v), .int .i64 (Vw.Y v), .int .i64 (Vw.W v), .int .i64 (Vw.H v), .int .i32 (Vw.Nr v), .int .i32 (Vw.Fr v)] 24)).alloc (.cells #[.int .i32 (Vt.p x 0), .int .i32 (Vt.p x 1), .int .i32 (Vt.p x 2), .int .i32 (Vt.p x 3), .int .i32 (Vt.s x), .slice ao x.vs.length cap] 29)).alloc (.cells #[.int .i64 0, .int .i64 0, .int .i32 0, .int .i32 0, .int .i32 0, .slice none 0 0] 44)).heap.size := by simp
  obtain ⟨W0, hW0⟩ : ∃ W0, W0 = (((w.alloc (.cells #[.int .i64 (Vw.X v), .int .i64 (Vw.Y v), .int .i64 (Vw.W v), .int .i64 (Vw.H v), .int .i32 (Vw.Nr v), .int .i32 (Vw.Fr v)] 24)).alloc (.cells #[.int .i32 (Vt.p x 0), .int .i32 (Vt.p x 1), .int .i32 (Vt.p x 2), .int .i32 (Vt.p x 3), .int .i32 (Vt.s x), .slice ao x.vs.length cap] 29)).alloc (.cells #[.int .i64 0, .int .i64 0, .int .i32 0, .int .i32 0, .int .i32 0, .slice none 0 0] 44)) := ⟨_, rfl⟩
  have p3 := hP.cell (i := 3) rfl
  rw [← hW0] at hV hP hC hX hsz
  have HK := hide (fun wx hx => cloneVs_any (.slice ao x.vs.length cap) x.vs wx (SR.ext h (hX.trans hx)) hm)
  have k0 : ∀ wx, Below (w.heap.size + 1 + 1) W0 wx → wx.cell? ⟨w.heap.size, 0, none⟩ = some (.int .i64 (Vw.X v)) := fun wx hx => by
    rw [hx.cell (p := ⟨w.heap.size, 0, none⟩) (by show w.heap.size < w.heap.size + 1 + 1; omega)]
    exact hV.cell (i := 0) rfl
  have k1 : ∀ wx, Below (w.heap.size + 1 + 1) W0 wx → wx.cell? ⟨w.heap.size, 1, none⟩ = some (.int .i64 (Vw.Y v)) := fun wx hx => by
    rw [hx.cell (p := ⟨w.heap.size, 1, none⟩) (by show w.heap.size < w.heap.size + 1 + 1; omega)]
    exact hV.cell (i := 1) rfl
  have k2 : ∀ wx, Below (w.heap.size + 1 + 1) W0 wx → wx.cell? ⟨w.heap.size, 2, none⟩ = some (.int .i64 (Vw.W v)) := fun wx hx => by
    rw [hx.cell (p := ⟨w.heap.size, 2, none⟩) (by show w.heap.size < w.heap.size + 1 + 1; omega)]
    exact hV.cell (i := 2) rfl
  have k3 : ∀ wx, Below (w.heap.size + 1 + 1) W0 wx → wx.cell? ⟨w.heap.size, 3, none⟩ = some (.int .i64 (Vw.H v)) := fun wx hx => by
    rw [hx.cell (p := ⟨w.heap.size, 3, none⟩) (by show w.heap.size < w.heap.size + 1 + 1; omega)]
    exact hV.cell (i := 3) rfl
  have k4 : ∀ wx, Below (w.heap.size + 1 + 1) W0 wx → wx.cell? ⟨w.heap.size, 4, none⟩ = some (.int .i32 (Vw.Nr v)) := fun wx hx => by
    rw [hx.cell (p := ⟨w.heap.size, 4, none⟩) (by show w.heap.size < w.heap.size + 1 + 1; omega)]
    exact hV.cell (i := 4) rfl
  have k5 : ∀ wx, Below (w.heap.size + 1 + 1) W0 wx → wx.cell? ⟨w.heap.size, 5, none⟩ = some (.int .i32 (Vw.Fr v)) := fun wx hx => by
    rw [hx.cell (p := ⟨w.heap.size, 5, none⟩) (by show w.heap.size < w.heap.size + 1 + 1; omega)]
    exact hV.cell (i := 5) rfl
  have k6 : ∀ wx, Below (w.heap.size + 1 + 1) W0 wx → wx.cell? ⟨w.heap.size + 1, 0, none⟩ = some (.int .i32 (Vt.p x 0)) := fun wx hx => by
    rw [hx.cell (p := ⟨w.heap.size + 1, 0, none⟩) (by show w.heap.size + 1 < w.heap.size + 1 + 1; omega)]
    exact hP.cell (i := 0) rfl
  have k7 : ∀ wx, Below (w.heap.size + 1 + 1) W0 wx → wx.cell? ⟨w.heap.size + 1, 1, none⟩ = some (.int .i32 (Vt.p x 1)) := fun wx hx => by
    rw [hx.cell (p := ⟨w.heap.size + 1, 1, none⟩) (by show w.heap.size + 1 < w.heap.size + 1 + 1; omega)]
    exact hP.cell (i := 1) rfl
  have k8 : ∀ wx, Below (w.heap.size + 1 + 1) W0 wx → wx.cell? ⟨w.heap.size + 1, 2, none⟩ = some (.int .i32 (Vt.p x 2)) := fun wx hx => by
    rw [hx.cell (p := ⟨w.heap.size + 1, 2, none⟩) (by show w.heap.size + 1 < w.heap.size + 1 + 1; omega)]
    exact hP.cell (i := 2) rfl
  have k9 : ∀ wx, Below (w.heap.size + 1 + 1) W0 wx → wx.cell? ⟨w.heap.size + 1, 3, none⟩ = some (.int .i32 (Vt.p x 3)) := fun wx hx => by
    rw [hx.cell (p := ⟨w.heap.size + 1, 3, none⟩) (by show w.heap.size + 1 < w.heap.size + 1 + 1; omega)]
    exact hP.cell (i := 3) rfl
  have k10 : ∀ wx, Below (w.heap.size + 1 + 1) W0 wx → wx.cell? ⟨w.heap.size + 1, 4, none⟩ = some (.int .i32 (Vt.s x)) := fun wx hx => by
    rw [hx.cell (p := ⟨w.heap.size + 1, 4, none⟩) (by show w.heap.size + 1 < w.heap.size + 1 + 1; omega)]
    exact hP.cell (i := 4) rfl
  have k11 : ∀ wx, Below (w.heap.size + 1 + 1) W0 wx → wx.cell? ⟨w.heap.size + 1, 5, none⟩ = some (.slice ao x.vs.length cap) := fun wx hx => by
    rw [hx.cell (p := ⟨w.heap.size + 1, 5, none⟩) (by show w.heap.size + 1 < w.heap.size + 1 + 1; omega)]
    exact hP.cell (i := 5) rfl
  have B0 := hide (show Below (w.heap.size + 1 + 1) W0 W0.drew from Below.mono ((Ext.refl W0).drew) (by omega))
  have HC := hide (And.intro hC (And.intro hX hsz))
  have HI := hide hI
  have HNF := hide (show I32 v.Nr ∧ I32 v.Fr by unfold I32; omega)
  have HB := hide hvb
  have S0 := hide (shrI_bd (x.p 0) (x.p 3))
  have S1 := hide (shrI_bd (x.p 1) (x.p 3))
  have S2 := hide (shrI_bd (x.p 2) (x.p 3))
  have C0 := hide (fun wx => shrC_any (x.p 0) (x.p 3) wx (hI.1 0) (hI.1 3))
  have C1 := hide (fun wx => shrC_any (x.p 1) (x.p 3) wx (hI.1 1) (hI.1 3))
  have C2 := hide (fun wx => shrC_any (x.p 2) (x.p 3) wx (hI.1 2) (hI.1 3))
  have E0 := hide (show (layW v x).x = plcI v.X v.W (shrI (x.p 0) (x.p 3)) from rfl)
  have E1 := hide (show (layW v x).y = plcI v.Y v.H (shrI (x.p 1) (x.p 3)) from rfl)
  have E2 := hide (show (layW v x).z = addI v.Nr (mulI (subI v.Fr v.Nr) (shrI (x.p 2) (x.p 3) / 2)) from rfl)
  have E3 := hide (show (layW v x).w = x.p 3 ∧ (layW v x).s = x.s from ⟨rfl, rfl⟩)
  unfold LyQ
  generalize layW v x = l at *
  generalize shrI (x.p 0) (x.p 3) = s0 at *
  generalize shrI (x.p 1) (x.p 3) = s1 at *
  generalize shrI (x.p 2) (x.p 3) = s2 at *
  have d2 : s2 >>> 1 = s2 / 2 := by simp [Int.shiftRight_eq_div_pow]
  clear h hV hP hC hX hI hv hvb hsz
  go_enter Try.func33, Try.ntmps33
  go_upto_region 2 with fail
  rw [← hW0] at p3 ⊢
  clear hW0
  go_region_held3 (fun wx => Below (w.heap.size + 1 + 1) W0 wx)
    (first | with_reducible exact unhide B0 | with_reducible exact unhide B1 | with_reducible exact below_set6 (unhide B1) (unhide B2))
    (first
      | (go_at_call_of 48 (Value.int IntKind.i32 (x.p 0)); refine (unhide C0 _).mono ?_; rintro e w' ⟨rfl, rfl⟩)
      | (go_at_call_of 48 (Value.int IntKind.i32 (x.p 1)); refine (unhide C1 _).mono ?_; rintro e w' ⟨rfl, rfl⟩)
      | (go_at_call_of 48 (Value.int IntKind.i32 (x.p 2)); refine (unhide C2 _).mono ?_; rintro e w' ⟨rfl, rfl⟩)
      | (go_at_call_of 47 (Value.int IntKind.i64 v.X); refine (plcC_any _ _ _ _ ⟨(unhide HB).1, (unhide HB).2.1⟩ ⟨(unhide HB).2.2.1, (unhide HB).2.2.2.1⟩ (unhide S0)).mono ?_; rintro e w' ⟨rfl, rfl⟩)
      | (go_at_call_of 47 (Value.int IntKind.i64 v.Y); refine (plcC_any _ _ _ _ ⟨(unhide HB).2.2.2.2.2.1, (unhide HB).2.2.2.2.2.2.1⟩ ⟨(unhide HB).2.2.2.2.2.2.2.1, (unhide HB).2.2.2.2.2.2.2.2.1⟩ (unhide S1)).mono ?_; rintro e w' ⟨rfl, rfl⟩)
      | (go_at_call 37; refine (sub_any _ _ _ (unhide HNF).2 (unhide HNF).1).mono ?_; rintro e w' ⟨rfl, rfl⟩)
      | (go_at_call 49; refine (mul_any _ _ _ (subI_i32 _ _) (shr1 (unhide S2))).mono ?_; rintro e w' ⟨rfl, rfl⟩)
      | (go_at_call 38; refine (add_any _ _ _ (unhide HNF).1 (mulI_i32 _ _)).mono ?_; rintro e w' ⟨rfl, rfl⟩)
      | (go_at_call 50; refine (unhide HK _ ((Ext.refl W0).drew)).mono ?_; rintro e w1 ⟨u', rfl, hv1, hb1, ⟨ao', cap', rfl⟩, hx1⟩; have bx := ((Ext.refl W0).drew).trans hx1; have B1 := hide (show Below (w.heap.size + 1 + 1) W0 w1 from Below.mono bx (by have := (unhide HC).2.2; omega)); have B2 := hide (show w.heap.size + 1 + 1 ≤ w1.heap.size by have h1 := bx.size; have h2 := (unhide HC).2.2; omega); obtain ⟨r0, r1, r2, r3, r4, r5⟩ := ((unhide HC).1.ext bx).six; obtain ⟨f0, f1, f2, f3, f4, f5⟩ := ((unhide HC).1.ext bx).free6; have HE := hide (And.intro hv1 (And.intro hb1 bx)); clear hv1 hb1 hx1 bx))
  try go_wp2
  have hC3 := ((unhide HC).1.ext (unhide HE).2.2).lay6 (.int .i64 (plcI v.X v.W s0)) (.int .i64 (plcI v.Y v.H s1)) (.int .i32 (addI v.Nr (mulI (subI v.Fr v.Nr) (s2 / 2)))) (.int .i32 (x.p 3)) (.int .i32 x.s) (.slice ao' x.vs.length cap')
  obtain ⟨z0, z1, z2, z3, z4, z5⟩ := hC3.six
  unfold set6 at z0 z1 z2 z3 z4 z5
  have hsz := (unhide HC).2.2
  have hd : W0.drew.heap.size = W0.heap.size := rfl
  refine bodyPost_ret (v := .agg #[.int .i64 (plcI v.X v.W s0), .int .i64 (plcI v.Y v.H s1), .int .i32 (addI v.Nr (mulI (subI v.Fr v.Nr) (s2 / 2))), .int .i32 (x.p 3), .int .i32 x.s, .slice ao' x.vs.length cap']) (by simp [results, Try.results33, go_sem, z0, z1, z2, z3, z4, z5]) rfl ⟨.slice ao' x.vs.length cap', by rw [unhide E0, unhide E1, unhide E2, (unhide E3).1, (unhide E3).2], ?_, ?_, ⟨ao', cap', rfl⟩, ?_⟩
  · exact VQ.kept (b := w.heap.size + 1 + 1) (unhide HE).1 (fun c hc => by have := (unhide HE).2.1 c hc; omega)
  · intro b hb
    have := (unhide HE).2.1 b hb
    omega
  · exact ext_set6 ((unhide HC).2.1.trans (unhide HE).2.2) (by omega)
end Go.Proofs.Ytbhdloanlagddaa
