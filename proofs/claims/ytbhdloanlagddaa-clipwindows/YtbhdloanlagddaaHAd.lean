/-
  Corners: the walks of mix, Clone, copied and lay. What the dump lacks is left out.
-/
import Derived.Test.YtbhdloanlagddaaHAc
import Derived.Deep.RegionHeld3
namespace Go.Proofs.Ytbhdloanlagddaa
open Go.RowKit
set_option linter.unusedVariables false
set_option linter.unusedSimpArgs false

set_option maxRecDepth 10000 in
set_option maxHeartbeats 2000000 in
theorem mixC_any (a b : Nat → Int) (t : Int) (w : World) (Ia : ∀ i, I32 (a i)) (Ib : ∀ i, I32 (b i)) (It : I32 t) :
    Calls Try.prog 58 #[.agg #[.int .i32 (a 0), .int .i32 (a 1), .int .i32 (a 2), .int .i32 (a 3)], .agg #[.int .i32 (b 0), .int .i32 (b 1), .int .i32 (b 2), .int .i32 (b 3)], .int .i32 t] w fun e w' => e = .returned (.agg #[.int .i32 (clM a b t 0), .int .i32 (clM a b t 1), .int .i32 (clM a b t 2), .int .i32 (clM a b t 3)]) ∧ Ext w w' := by
  have HM := hide (fun wx => mixV_any 4 a b (fun _ => t) wx (by decide) (by decide) Ia Ib (fun _ => It))
  rw [show cut 4 (fun i => addI (a i) (mulI (subI (b i) (a i)) t)) = clM a b t from rfl] at HM
  clear Ia Ib It
  generalize clM a b t = m at *
  have hX := (((Ext.refl w).alloc (.cells #[.int .i32 (a 0), .int .i32 (a 1), .int .i32 (a 2), .int .i32 (a 3)] 26)).alloc (.cells #[.int .i32 (b 0), .int .i32 (b 1), .int .i32 (b 2), .int .i32 (b 3)] 26)).alloc (.cells #[.int .i32 0, .int .i32 0, .int .i32 0, .int .i32 0] 26)
  have hA : Blk (((w.alloc (.cells #[.int .i32 (a 0), .int .i32 (a 1), .int .i32 (a 2), .int .i32 (a 3)] 26)).alloc (.cells #[.int .i32 (b 0), .int .i32 (b 1), .int .i32 (b 2), .int .i32 (b 3)] 26)).alloc (.cells #[.int .i32 0, .int .i32 0, .int .i32 0, .int .i32 0] 26)) w.heap.size #[.int .i32 (a 0), .int .i32 (a 1), .int .i32 (a 2), .int .i32 (a 3)] 26 := ((Blk.new _ _ _).alloc _).alloc _
  have hB : Blk (((w.alloc (.cells #[.int .i32 (a 0), .int .i32 (a 1), .int .i32 (a 2), .int .i32 (a 3)] 26)).alloc (.cells #[.int .i32 (b 0), .int .i32 (b 1), .int .i32 (b 2), .int .i32 (b 3)] 26)).alloc (.cells #[.int .i32 0, .int .i32 0, .int .i32 0, .int .i32 0] 26)) (w.heap.size + 1) #[.int .i32 (b 0), .int .i32 (b 1), .int .i32 (b 2), .int .i32 (b 3)] 26 := (Blk.at (by simp)).alloc _
  have hC : Blk (((w.alloc (.cells #[.int .i32 (a 0), .int .i32 (a 1), .int .i32 (a 2), .int .i32 (a 3)] 26)).alloc (.cells #[.int .i32 (b 0), .int .i32 (b 1), .int .i32 (b 2), .int .i32 (b 3)] 26)).alloc (.cells #[.int .i32 0, .int .i32 0, .int .i32 0, .int .i32 0] 26)) (w.heap.size + 1 + 1) #[.int .i32 (nul 0), .int .i32 (nul 1), .int .i32 (nul 2), .int .i32 (nul 3)] 26 := Blk.at (by simp)
  obtain ⟨a0, a1, a2, a3⟩ := hA.vec4
  obtain ⟨b0, b1, b2, b3⟩ := hB.vec4
  have HC := hide (And.intro hC hX)
  clear hA hB hC hX
  go_enter Try.func58, Try.ntmps58
  go_wp2_with fail
  refine (unhide HM _).mono ?_
  rintro e w1 ⟨rfl, hx1⟩
  have hC1 := (unhide HC).1.ext (hx1.trans ((Ext.refl w1).alloc (.cells #[.int .i32 (m 0), .int .i32 (m 1), .int .i32 (m 2), .int .i32 (m 3)] 26)))
  have hM1 : Blk (w1.alloc (.cells #[.int .i32 (m 0), .int .i32 (m 1), .int .i32 (m 2), .int .i32 (m 3)] 26)) w1.heap.size #[.int .i32 (m 0), .int .i32 (m 1), .int .i32 (m 2), .int .i32 (m 3)] 26 := Blk.new _ _ _
  obtain ⟨m0, m1, m2, m3⟩ := hM1.vec4
  obtain ⟨f0, f1, f2, f3⟩ := hC1.free4
  obtain ⟨r0, r1, r2, r3⟩ := Blk.vec4 (a := nul) hC1
  have HF := hide (And.intro hC1 ((unhide HC).2.trans (hx1.trans ((Ext.refl w1).alloc (.cells #[.int .i32 (m 0), .int .i32 (m 1), .int .i32 (m 2), .int .i32 (m 3)] 26)))))
  clear hx1 hC1 hM1 HC HM
  go_wp2
  obtain ⟨q0, q1, q2, q3⟩ := lay4 (a := nul) (unhide HF).1 (.int .i32 (m 0)) (.int .i32 (m 1)) (.int .i32 (m 2)) (.int .i32 (m 3))
  refine bodyPost_ret (v := .agg #[.int .i32 (m 0), .int .i32 (m 1), .int .i32 (m 2), .int .i32 (m 3)]) (by simp [results, Try.results58, go_sem, q0, q1, q2, q3]) rfl ⟨rfl, ext_set4 (unhide HF).2 (by omega)⟩

theorem vEnc_one1 (a : Nat → Int) : ∀ u ∈ vEnc a, u.oneCell' = true := by simp [vEnc, Value.oneCell']
/-- What a copy of Vars answers. -/
def ClQ (w : World) (vs : List (Nat → Int)) (v' : Value) (w' : World) : Prop := VQ w' v' vs ∧ (∀ b, v'.ownBlock = some b → w.heap.size ≤ b) ∧ (∃ ao cap, v' = .slice ao vs.length cap) ∧ Ext w w'
set_option maxHeartbeats 1000000 in
theorem cloneVs_any (v : Value) (vs : List (Nat → Int)) (w : World) (h : VQ w v vs) (hm : vs.length ≤ 1000000) :
    Calls Try.prog 50 #[v] w fun e w' => ∃ v', e = .returned v' ∧ ClQ w vs v' w' := by
  obtain ⟨ao, cap, rfl, h0, hl, hcm, hc⟩ := id h
  have hnil := fun wx => Lib.run_eql_slice_nil (P := Try.prog) wx 27 26 ao vs.length cap 0 0 Try.underlying27
  cases ao with
  | none =>
    have hvs : vs = [] := by
      cases vs with
      | nil => rfl
      | cons a r => obtain ⟨_, _, e, _⟩ := hc 0 (by simp); cases e
    subst hvs
    obtain rfl := h0 rfl
    simp only [List.length_nil] at hnil ⊢
    clear h0 hl hc
    go_enter Try.func50, Try.ntmps50
    go_wp2
    go_ret
    exact ⟨.slice none 0 0, rfl, (show VQ w (.slice none 0 0) [] from SR.nil w), (fun b h => by cases h), ⟨none, 0, rfl⟩, Ext.refl _⟩
  | some ad =>
    have HR := hide h
    have hG : GO vEnc 26 4 (w.alloc (.cells #[] 26)) w.heap.size (.slice (some ⟨w.heap.size, 0, none⟩) 0 0) ([] : List (Nat → Int)) := ⟨rfl, .inr ⟨w.heap.size, 0, #[], rfl, Nat.le_refl _, Blk.new w #[] 26, Nat.le_refl _, Nat.zero_le _, rfl, rfl⟩⟩
    obtain ⟨ao2, cap2, N, w9, hN, hrun, r1, r2, r3⟩ := run_append_GM (P := Try.prog) (t := 27) 27 infoVc Try.underlying27 rfl (by decide) (by decide) w.heap.size _ [] vs hG ad cap (SR.ext h ((Ext.refl w).alloc _)) vEnc_len (fun x _ => vEnc_one1 x) (by simp; omega) (by simp)
    rw [List.nil_append] at hN
    subst hN
    have hX9 : Ext w w9 := ((Ext.refl w).alloc _).grown r2 (by simp) (fun r hr => by cases hr; exact Nat.le_refl _)
    have H9 := hide (And.intro r1 (And.intro hX9 hrun))
    clear h0 h hc hG r1 r2 hX9 hrun
    go_enter Try.func50, Try.ntmps50
    go_wp2_with (at_builtin; refine wpList_runA rfl (.tmp 5) (.tmp 6) 27 rfl rfl rfl (unhide H9).2.2 ?_)
    go_ret
    exact ⟨_, rfl, (unhide H9).1.sr vEnc_len, fun b hb => ((unhide H9).1.lt b hb).1, ⟨_, _, rfl⟩, (unhide H9).2.1⟩

theorem Blk.six {w : World} {b : Nat} {c0 c1 c2 c3 c4 c5 : Value} {t : TypeId} (h : Blk w b #[c0, c1, c2, c3, c4, c5] t) : w.cell? ⟨b, 0, none⟩ = some c0 ∧ w.cell? ⟨b, 1, none⟩ = some c1 ∧ w.cell? ⟨b, 2, none⟩ = some c2 ∧ w.cell? ⟨b, 3, none⟩ = some c3 ∧ w.cell? ⟨b, 4, none⟩ = some c4 ∧ w.cell? ⟨b, 5, none⟩ = some c5 :=
  ⟨h.cell rfl, h.cell rfl, h.cell rfl, h.cell rfl, h.cell rfl, h.cell rfl⟩
theorem Blk.free6 {w : World} {b : Nat} {cs : Array Value} {t : TypeId} (h : Blk w b cs t) : w.frozen? ⟨b, 0, none⟩ = false ∧ w.frozen? ⟨b, 1, none⟩ = false ∧ w.frozen? ⟨b, 2, none⟩ = false ∧ w.frozen? ⟨b, 3, none⟩ = false ∧ w.frozen? ⟨b, 4, none⟩ = false ∧ w.frozen? ⟨b, 5, none⟩ = false :=
  ⟨h.free 0, h.free 1, h.free 2, h.free 3, h.free 4, h.free 5⟩
/-- Six cells laid one by one. -/
def set6 (w : World) (b : Nat) (x0 x1 x2 x3 x4 x5 : Value) : World := (((((w.setCell ⟨b, 0, none⟩ x0).setCell ⟨b, 1, none⟩ x1).setCell ⟨b, 2, none⟩ x2).setCell ⟨b, 3, none⟩ x3).setCell ⟨b, 4, none⟩ x4).setCell ⟨b, 5, none⟩ x5
theorem Blk.lay6 {w : World} {b : Nat} {c0 c1 c2 c3 c4 c5 : Value} {t : TypeId} (h : Blk w b #[c0, c1, c2, c3, c4, c5] t) (x0 x1 x2 x3 x4 x5 : Value) :
    Blk (set6 w b x0 x1 x2 x3 x4 x5) b #[x0, x1, x2, x3, x4, x5] t := by
  have := (((((h.set 0 x0).set 1 x1).set 2 x2).set 3 x3).set 4 x4).set 5 x5
  simpa [set6] using this
theorem ext_set6 {w w1 : World} {b : Nat} {x0 x1 x2 x3 x4 x5 : Value} (h : Ext w w1) (hb : w.heap.size ≤ b) : Ext w (set6 w1 b x0 x1 x2 x3 x4 x5) :=
  ext_set (ext_set (ext_set (ext_set (ext_set (ext_set h hb) hb) hb) hb) hb) hb
theorem ext_lay6 {w w1 : World} {b : Nat} {x0 x1 x2 x3 x4 x5 : Value} (h : Ext w w1) (hb : w.heap.size ≤ b) : Ext w ((((((w1.setCell ⟨b, 0, none⟩ x0).setCell ⟨b, 1, none⟩ x1).setCell ⟨b, 2, none⟩ x2).setCell ⟨b, 3, none⟩ x3).setCell ⟨b, 4, none⟩ x4).setCell ⟨b, 5, none⟩ x5) :=
  ext_set (ext_set (ext_set (ext_set (ext_set (ext_set h hb) hb) hb) hb) hb) hb
theorem grown_set6 (w1 : World) (b : Nat) (x0 x1 x2 x3 x4 x5 : Value) : w1.grownBy (set6 w1 b x0 x1 x2 x3 x4 x5) (some b) :=
  (((((grownBy_set _ b 0 _).trans (grownBy_set _ b 1 _)).trans (grownBy_set _ b 2 _)).trans (grownBy_set _ b 3 _)).trans (grownBy_set _ b 4 _)).trans (grownBy_set _ b 5 _)
/-- Vars stay as they are while a block beside them is laid. -/
theorem VQ.kept {w1 : World} {b : Nat} {u : Value} {vs : List (Nat → Int)} {x0 x1 x2 x3 x4 x5 : Value} (h : VQ w1 u vs) (hne : ∀ c, u.ownBlock = some c → c ≠ b) : VQ (set6 w1 b x0 x1 x2 x3 x4 x5) u vs :=
  SR.grown h (grown_set6 w1 b _ _ _ _ _ _) (fun _ e => hne b e rfl)

set_option maxRecDepth 10000 in
set_option maxHeartbeats 2000000 in
theorem copied_any (x : Vt) (u : Value) (w : World) (h : VQ w u x.vs) (hm : x.vs.length ≤ 1000000) :
    Calls Try.prog 46 #[.agg #[.int .i32 (Vt.p x 0), .int .i32 (Vt.p x 1), .int .i32 (Vt.p x 2), .int .i32 (Vt.p x 3), .int .i32 (Vt.s x), u]] w fun e w' => ∃ u', e = .returned (.agg #[.int .i32 (Vt.p x 0), .int .i32 (Vt.p x 1), .int .i32 (Vt.p x 2), .int .i32 (Vt.p x 3), .int .i32 (Vt.s x), u']) ∧ ClQ w x.vs u' w' := by
  obtain ⟨ao, cap, rfl, _⟩ := id h
  have hP : Blk ((w.alloc (.cells #[.int .i32 (Vt.p x 0), .int .i32 (Vt.p x 1), .int .i32 (Vt.p x 2), .int .i32 (Vt.p x 3), .int .i32 (Vt.s x), .slice ao x.vs.length cap] 29)).alloc (.cells #[.int .i32 0, .int .i32 0, .int .i32 0, .int .i32 0, .int .i32 0, .slice none 0 0] 29)) w.heap.size #[.int .i32 (Vt.p x 0), .int .i32 (Vt.p x 1), .int .i32 (Vt.p x 2), .int .i32 (Vt.p x 3), .int .i32 (Vt.s x), .slice ao x.vs.length cap] 29 := (Blk.new _ _ _).alloc _
  have hC : Blk ((w.alloc (.cells #[.int .i32 (Vt.p x 0), .int .i32 (Vt.p x 1), .int .i32 (Vt.p x 2), .int .i32 (Vt.p x 3), .int .i32 (Vt.s x), .slice ao x.vs.length cap] 29)).alloc (.cells #[.int .i32 0, .int .i32 0, .int .i32 0, .int .i32 0, .int .i32 0, .slice none 0 0] 29)) (w.heap.size + 1) #[.int .i32 0, .int .i32 0, .int .i32 0, .int .i32 0, .int .i32 0, .slice none 0 0] 29 := Blk.at (by simp)
  have hX := ((Ext.refl w).alloc (.cells #[.int .i32 (Vt.p x 0), .int .i32 (Vt.p x 1), .int .i32 (Vt.p x 2), .int .i32 (Vt.p x 3), .int .i32 (Vt.s x), .slice ao x.vs.length cap] 29)).alloc (.cells #[.int .i32 0, .int .i32 0, .int .i32 0, .int .i32 0, .int .i32 0, .slice none 0 0] 29)
  have HK := hide (fun wx hx => cloneVs_any (.slice ao x.vs.length cap) x.vs wx (SR.ext h (hX.trans hx)) hm)
  have H0 := hide (And.intro hP (And.intro hC hX))
  have p5 := hP.cell (i := 5) rfl
  clear h hP hC hX
  go_enter Try.func46, Try.ntmps46
  go_wp2_with fail
  refine (unhide HK _ (Ext.refl _)).mono ?_
  rintro e w1 ⟨u', rfl, hv1, hb1, ⟨ao', cap', rfl⟩, hx1⟩
  have hsz := hx1.size
  simp at hsz
  have hP1 := (unhide H0).1.ext hx1
  have hP2 : Blk (w1.setCell ⟨w.heap.size, 5, none⟩ (.slice ao' x.vs.length cap')) w.heap.size #[.int .i32 (Vt.p x 0), .int .i32 (Vt.p x 1), .int .i32 (Vt.p x 2), .int .i32 (Vt.p x 3), .int .i32 (Vt.s x), .slice ao' x.vs.length cap'] 29 := by
    have := hP1.set 5 (.slice ao' x.vs.length cap')
    simpa using this
  have hC2 := ((unhide H0).2.1.ext hx1).other 5 (.slice ao' x.vs.length cap') (show w.heap.size + 1 ≠ w.heap.size by omega)
  obtain ⟨p0, p1, p2, p3, p4, p6⟩ := hP2.six
  obtain ⟨q0, q1, q2, q3, q4, q5⟩ := hC2.six
  obtain ⟨f0, f1, f2, f3, f4, f5⟩ := hC2.free6
  have g5 := hP1.free 5
  have o5 := hP1.cell (i := 5) rfl
  have hX2 := ext_set (i := 5) (v := .slice ao' x.vs.length cap') ((unhide H0).2.2.trans hx1) (Nat.le_refl w.heap.size)
  have hV2 : VQ (w1.setCell ⟨w.heap.size, 5, none⟩ (.slice ao' x.vs.length cap')) (.slice ao' x.vs.length cap') x.vs := SR.grown hv1 (grownBy_set _ _ _ _) (fun _ e => by have := hb1 _ e; simp at this; omega)
  have hb2 : ∀ b, (Value.slice ao' x.vs.length cap').ownBlock = some b → w.heap.size + 2 ≤ b := fun b hb => by have := hb1 b hb; simp at this; omega
  have HE := hide (And.intro hX2 (And.intro hV2 (And.intro hb2 hC2)))
  clear hP1 hP2 hC2 hX2 hV2 hb1 hb2 hx1 hv1 H0 HK hsz
  go_wp2
  have hC3 := (unhide HE).2.2.2.lay6 (.int .i32 (x.p 0)) (.int .i32 (x.p 1)) (.int .i32 (x.p 2)) (.int .i32 (x.p 3)) (.int .i32 x.s) (.slice ao' x.vs.length cap')
  obtain ⟨z0, z1, z2, z3, z4, z5⟩ := hC3.six
  unfold set6 at z0 z1 z2 z3 z4 z5
  refine bodyPost_ret (v := .agg #[.int .i32 (Vt.p x 0), .int .i32 (Vt.p x 1), .int .i32 (Vt.p x 2), .int .i32 (Vt.p x 3), .int .i32 (Vt.s x), .slice ao' x.vs.length cap']) (by simp [results, Try.results46, go_sem, z0, z1, z2, z3, z4, z5]) rfl ⟨_, rfl, ?_, ?_, ⟨ao', cap', rfl⟩, ?_⟩
  · exact VQ.kept (b := w.heap.size + 1) (unhide HE).2.1 (fun c hc => by have := (unhide HE).2.2.1 c hc; omega)
  · intro b hb
    have := (unhide HE).2.2.1 b hb
    omega
  · exact ext_set6 (unhide HE).1 (by omega)

theorem shrC_any (a b : Int) (w : World) (ha : I32 a) (hb : I32 b) : Calls Try.prog 48 #[.int .i32 a, .int .i32 b] w fun e w' => e = .returned (.int .i32 (shrI a b)) ∧ w' = w := by
  have hw : IntKind.i32.wrap (clampI (divI a b) (-65536) 65536 + 65536) = shrI a b := by
    unfold shrI clampI
    simp [IntKind.wrap, IntKind.bits, IntKind.signed]
    omega
  go_enter Try.func48, Try.ntmps48
  go_wp2_with (first | (go_at_call 57; refine (div_any _ _ _ ha hb).mono ?_; rintro e w' ⟨rfl, rfl⟩) | (go_at_call 59; refine (clamp_any _ _ _ _).mono ?_; rintro e w' ⟨rfl, rfl⟩; simp only [hw]))
  go_ret
  exact ⟨by first | rfl | (simp [hw]; done) | (rw [← hw]; simp), rfl⟩

theorem plcC_any (f n s : Int) (w : World) (hf : 0 ≤ f ∧ f ≤ 64) (hn : 0 ≤ n ∧ n ≤ 64) (hs : 0 ≤ s ∧ s ≤ 131072) : Calls Try.prog 47 #[.int .i64 f, .int .i64 n, .int .i32 s] w fun e w' => e = .returned (.int .i64 (plcI f n s)) ∧ w' = w := by
  obtain ⟨_, _, h3, h4⟩ := plcI_bd (f := f) hn hs
  have w0 : IntKind.i64.wrap (256 * f) = 256 * f := by simp [IntKind.wrap, IntKind.bits, IntKind.signed]; omega
  have w1 : IntKind.i64.wrap s = s := by simp [IntKind.wrap, IntKind.bits, IntKind.signed]; omega
  have w2 : IntKind.i64.wrap (s * n) = s * n := by simp [IntKind.wrap, IntKind.bits, IntKind.signed]; omega
  have w3 : IntKind.i64.wrap (256 * f + s * n / 512) = 256 * f + s * n / 512 := by simp [IntKind.wrap, IntKind.bits, IntKind.signed]; omega
  go_enter Try.func47, Try.ntmps47
  go_wp2
  go_ret
  unfold plcI
  exact ⟨by first | rfl | (simp [w0, w1, w2, w3]; done), rfl⟩
end Go.Proofs.Ytbhdloanlagddaa
