/-
  Vertices out of bytes: the walks of Vertex and Row.
-/
import Derived.Test.YtmigakbccmkjoaaFEe
namespace Go.Proofs.Ytmigakbccmkjoaa
open Go.RowKit
set_option linter.unusedVariables false
set_option linter.unusedSimpArgs false

theorem gat_one {f : Nat → Option (Nat → Int)} {L : List (Nat → Int)} (h : GatQ f 1 L) : (L = [] ∧ f 0 = none) ∨ (L = [(f 0).getD nul] ∧ (f 0).isSome = true) := by
  obtain ⟨k, hk, rfl, ha, hn⟩ := h
  rcases (by omega : k = 0 ∨ k = 1) with rfl | rfl
  · exact .inl ⟨rfl, hn (by omega)⟩
  · exact .inr ⟨rfl, ha 0 (by omega)⟩
theorem gat_all {f : Nat → Option (Nat → Int)} {n : Nat} {L : List (Nat → Int)} (h : GatQ f n L) : (L.length < n ∧ (List.range n).all (fun i => (f i).isSome) = false) ∨ (L = fstL f n ∧ (List.range n).all (fun i => (f i).isSome) = true) := by
  obtain ⟨k, hk, rfl, ha, hn⟩ := h
  by_cases e : k < n
  · refine .inl ⟨by rw [fstL_len]; exact e, ?_⟩
    rw [List.all_eq_false]
    exact ⟨k, by simpa using e, by rw [hn e]; simp⟩
  · obtain rfl : k = n := by omega
    refine .inr ⟨rfl, ?_⟩
    rw [List.all_eq_true]
    intro i hi
    exact ha i (by simpa using hi)

theorem Blk.set4 {w : World} {b : Nat} {a : Nat → Int} {t : TypeId} (h : Blk w b #[.int .i32 (a 0), .int .i32 (a 1), .int .i32 (a 2), .int .i32 (a 3)] t) (x0 x1 x2 x3 : Value) :
    Blk ((((w.setCell ⟨b, 0, none⟩ x0).setCell ⟨b, 1, none⟩ x1).setCell ⟨b, 2, none⟩ x2).setCell ⟨b, 3, none⟩ x3) b #[x0, x1, x2, x3] t := by
  have := (((h.set 0 x0).set 1 x1).set 2 x2).set 3 x3
  simpa using this
theorem ext_setV {w w1 : World} {b : Nat} {x0 x1 x2 x3 : Value} (h : Ext w w1) (hb : w.heap.size ≤ b) : Ext w ((((w1.setCell ⟨b, 0, none⟩ x0).setCell ⟨b, 1, none⟩ x1).setCell ⟨b, 2, none⟩ x2).setCell ⟨b, 3, none⟩ x3) :=
  ext_set (ext_set (ext_set (ext_set h hb) hb) hb) hb

set_option maxRecDepth 10000 in
set_option maxHeartbeats 2000000 in
theorem fvertex_any (v : Value) (xs : List Int) (A : Arr) (i : Int) (w : World) (hr : Row .u8 w v xs) (hB : Byt xs) (hm : xs.length ≤ 140737488355000) :
    Calls Try.prog 15 #[v, .agg (arC A), .int .i64 i] w fun e w' => e = .returned (.tuple #[.agg #[.int .i32 (vtxV xs A i 0), .int .i32 (vtxV xs A i 1), .int .i32 (vtxV xs A i 2), .int .i32 (vtxV xs A i 3)], .int .i64 (vtxE xs A i)]) ∧ Ext w w' := by
  have HCK := hide (fun wx => fcheck_any A wx)
  have HX := hide ((Ext.refl w).alloc (.cells (arC A) 24) |>.alloc (.cells #[.int .i32 0, .int .i32 0, .int .i32 0, .int .i32 0] 35))
  have hA1 : Blk ((w.alloc (.cells (arC A) 24)).alloc (.cells #[.int .i32 0, .int .i32 0, .int .i32 0, .int .i32 0] 35)) w.heap.size (arC A) 24 := (Blk.new _ _ _).alloc _
  have hV1 : Blk ((w.alloc (.cells (arC A) 24)).alloc (.cells #[.int .i32 0, .int .i32 0, .int .i32 0, .int .i32 0] 35)) (w.heap.size + 1) #[.int .i32 (nul 0), .int .i32 (nul 1), .int .i32 (nul 2), .int .i32 (nul 3)] 35 := by
    have := Blk.new (w.alloc (.cells (arC A) 24)) #[.int .i32 0, .int .i32 0, .int .i32 0, .int .i32 0] 35
    rwa [show (w.alloc (.cells (arC A) 24)).heap.size = w.heap.size + 1 by simp] at this
  have H1 := hide (And.intro hA1 hV1)
  have HR := hide hr
  have hE : vtxE xs A i = if arrB A = false ∨ i < 0 ∨ 65535 < i then 2 else if (vtxF xs A i.toNat).isSome = true then 0 else 7 := rfl
  have hV : vtxV xs A i = if vtxE xs A i = 0 then (vtxF xs A i.toNat).getD nul else nul := rfl
  clear hA1 hV1 hr
  by_cases hA : arrB A = true
  · have hck : chkA A = 0 := by unfold chkA; rw [if_pos hA]
    rw [hck] at HCK
    by_cases h0 : i < 0 ∨ 65535 < i
    · have e1 : vtxE xs A i = 2 := by rw [hE, if_pos (.inr h0)]
      have e2 : vtxV xs A i = nul := by rw [hV, e1]; rfl
      rw [e1, e2]
      clear hE hV e1 e2
      have HA := hide hA
      clear hA hck
      unfold arC
      rcases (by omega : i < 0 ∨ (0 ≤ i ∧ 65535 < i)) with h1 | ⟨h1, h2⟩
      · have d1 : decide (i < 0) = true := by simpa using h1
        go_enter Try.func15, Try.ntmps15
        go_wp2_with (go_at_call 12; refine (unhide HCK _).mono ?_; rintro e w1 ⟨rfl, hx1⟩; have H2 := hide (And.intro ((unhide H1).1.ext hx1) (And.intro ((unhide H1).2.ext hx1) ((unhide HX).trans hx1))); obtain ⟨v0, v1, v2, v3⟩ := (unhide H2).2.1.vec4; have f0 := (unhide H2).2.1.free 0; have f1 := (unhide H2).2.1.free 1; have f2 := (unhide H2).2.1.free 2; have f3 := (unhide H2).2.1.free 3; clear hx1)
        have HB4 := hide (And.intro ((unhide H2).2.1.set4 (.int .i32 0) (.int .i32 0) (.int .i32 0) (.int .i32 0)) (ext_setV (x0 := .int .i32 0) (x1 := .int .i32 0) (x2 := .int .i32 0) (x3 := .int .i32 0) (unhide H2).2.2 (show w.heap.size ≤ w.heap.size + 1 by omega)))
        obtain ⟨r0, r1, r2, r3⟩ := Blk.vec4 (a := nul) (unhide HB4).1
        refine bodyPost_ret (v := .tuple #[.agg #[.int .i32 (nul 0), .int .i32 (nul 1), .int .i32 (nul 2), .int .i32 (nul 3)], .int .i64 2]) (by simp [results, Try.results15, go_sem, r0, r1, r2, r3]) rfl ⟨rfl, (unhide HB4).2⟩
      · have d1 : decide (i < 0) = false := by simpa using h1
        have d2 : decide (65535 < i) = true := by simpa using h2
        go_enter Try.func15, Try.ntmps15
        go_wp2_with (go_at_call 12; refine (unhide HCK _).mono ?_; rintro e w1 ⟨rfl, hx1⟩; have H2 := hide (And.intro ((unhide H1).1.ext hx1) (And.intro ((unhide H1).2.ext hx1) ((unhide HX).trans hx1))); obtain ⟨v0, v1, v2, v3⟩ := (unhide H2).2.1.vec4; have f0 := (unhide H2).2.1.free 0; have f1 := (unhide H2).2.1.free 1; have f2 := (unhide H2).2.1.free 2; have f3 := (unhide H2).2.1.free 3; clear hx1)
        have HB4 := hide (And.intro ((unhide H2).2.1.set4 (.int .i32 0) (.int .i32 0) (.int .i32 0) (.int .i32 0)) (ext_setV (x0 := .int .i32 0) (x1 := .int .i32 0) (x2 := .int .i32 0) (x3 := .int .i32 0) (unhide H2).2.2 (show w.heap.size ≤ w.heap.size + 1 by omega)))
        obtain ⟨r0, r1, r2, r3⟩ := Blk.vec4 (a := nul) (unhide HB4).1
        refine bodyPost_ret (v := .tuple #[.agg #[.int .i32 (nul 0), .int .i32 (nul 1), .int .i32 (nul 2), .int .i32 (nul 3)], .int .i64 2]) (by simp [results, Try.results15, go_sem, r0, r1, r2, r3]) rfl ⟨rfl, (unhide HB4).2⟩
    · have HGA := hide (fun (wx : World) (hx : Ext w wx) => gather_any v xs A i.toNat 1 wx ((unhide HR).ext hx) hB hm hA (by omega) (by omega))
      rw [Int.toNat_of_nonneg (by omega), show (((1 : Nat) : Int)) = 1 from rfl] at HGA
      have hE2 : vtxE xs A i = if (vtxF xs A i.toNat).isSome = true then 0 else 7 := by rw [hE, if_neg]; rintro (h | h); (rw [hA] at h; cases h); exact h0 h
      have d1 : decide (i < 0) = false := by simp; omega
      have d2 : decide (65535 < i) = false := by simp; omega
      have HE2 := hide hE2
      have HV2 := hide hV
      clear hE hE2 hV hA hck h0 hB hm
      have HCL := hide (fun (wx : World) (hx : Ext w wx) (hb : Blk wx w.heap.size (arC A) 24) => show wx.cell? ⟨w.heap.size, 0, none⟩ = some (.int .i64 A.size) ∧ wx.cell? ⟨w.heap.size, 1, none⟩ = some (.int .i64 A.kind) ∧ wx.cell? ⟨w.heap.size, 2, none⟩ = some (.bool A.nz) ∧ wx.cell? ⟨w.heap.size, 3, none⟩ = some (.int .i64 A.stride) ∧ wx.cell? ⟨w.heap.size, 4, none⟩ = some (.int .i64 A.off) from ⟨hb.cell rfl, hb.cell rfl, hb.cell rfl, hb.cell rfl, hb.cell rfl⟩)
      unfold arC
      go_enter Try.func15, Try.ntmps15
      go_wp2_with (go_at_call 12; refine (unhide HCK _).mono ?_; rintro e w1 ⟨rfl, hx1⟩; have H2 := hide (And.intro ((unhide H1).1.ext hx1) (And.intro ((unhide H1).2.ext hx1) ((unhide HX).trans hx1))); obtain ⟨a0, a1, a2, a3, a4⟩ := unhide HCL w1 (unhide H2).2.2 (unhide H2).1; clear hx1)
      refine (unhide HGA _ (unhide H2).2.2).mono ?_
      rintro e w2 ⟨ao, cap, L, rfl, hov, hgq, hx2⟩
      have H3 := hide (And.intro ((unhide H2).2.1.ext hx2) (And.intro ((unhide H2).2.2.trans hx2) hov))
      clear hx2 hov H2 a0 a1 a2 a3 a4 HCL HGA
      rcases gat_one hgq with ⟨rfl, hno⟩ | ⟨hL, hsome⟩
      · rw [Nat.add_zero] at hno
        have e1 : vtxE xs A i = 7 := by rw [unhide HE2, hno]; rfl
        have e2 : vtxV xs A i = nul := by rw [unhide HV2, e1]; rfl
        have E := hide (And.intro e1 e2)
        clear e1 e2 hno hgq HE2 HV2
        obtain ⟨v0, v1, v2, v3⟩ := (unhide H3).1.vec4
        have f0 := (unhide H3).1.free 0
        have f1 := (unhide H3).1.free 1
        have f2 := (unhide H3).1.free 2
        have f3 := (unhide H3).1.free 3
        simp only [List.length_nil]
        go_wp2
        have HB4 := hide (And.intro ((unhide H3).1.set4 (.int .i32 0) (.int .i32 0) (.int .i32 0) (.int .i32 0)) (ext_setV (x0 := .int .i32 0) (x1 := .int .i32 0) (x2 := .int .i32 0) (x3 := .int .i32 0) (unhide H3).2.1 (show w.heap.size ≤ w.heap.size + 1 by omega)))
        obtain ⟨r0, r1, r2, r3⟩ := Blk.vec4 (a := nul) (unhide HB4).1
        refine bodyPost_ret (v := .tuple #[.agg #[.int .i32 (nul 0), .int .i32 (nul 1), .int .i32 (nul 2), .int .i32 (nul 3)], .int .i64 7]) (by simp [results, Try.results15, go_sem, r0, r1, r2, r3]) rfl ⟨by rw [(unhide E).1, (unhide E).2], (unhide HB4).2⟩
      · rw [Nat.add_zero] at hsome hL
        have e1 : vtxE xs A i = 0 := by rw [unhide HE2, hsome]; rfl
        have e2 : vtxV xs A i = (vtxF xs A i.toNat).getD nul := by rw [unhide HV2, e1]; rfl
        have E := hide (And.intro e1 e2)
        generalize (vtxF xs A i.toNat).getD nul = y at hL E
        clear e1 e2 hsome hgq HE2 HV2
        subst hL
        obtain ⟨g, hg, hgb, hgl, hgc⟩ := GO.at vEnc_len (unhide H3).2.2 0 (by simp)
        subst hg
        have q0 := hgc 0 _ (by omega) rfl
        have q1 := hgc 1 _ (by omega) rfl
        have q2 := hgc 2 _ (by omega) rfl
        have q3 := hgc 3 _ (by omega) rfl
        simp only [Nat.zero_mul, Nat.zero_add] at q0 q1 q2 q3
        have f0 := (unhide H3).1.free 0
        have f1 := (unhide H3).1.free 1
        have f2 := (unhide H3).1.free 2
        have f3 := (unhide H3).1.free 3
        obtain ⟨v0, v1, v2, v3⟩ := (unhide H3).1.vec4
        simp only [List.length_cons, List.length_nil]
        clear hgc
        go_wp2
        have HB4 := hide (And.intro ((unhide H3).1.set4 (.int .i32 (y 0)) (.int .i32 (y 1)) (.int .i32 (y 2)) (.int .i32 (y 3))) (ext_setV (x0 := .int .i32 (y 0)) (x1 := .int .i32 (y 1)) (x2 := .int .i32 (y 2)) (x3 := .int .i32 (y 3)) (unhide H3).2.1 (show w.heap.size ≤ w.heap.size + 1 by omega)))
        obtain ⟨r0, r1, r2, r3⟩ := Blk.vec4 (a := y) (unhide HB4).1
        refine bodyPost_ret (v := .tuple #[.agg #[.int .i32 (y 0), .int .i32 (y 1), .int .i32 (y 2), .int .i32 (y 3)], .int .i64 0]) (by simp [results, Try.results15, go_sem, r0, r1, r2, r3]) rfl ⟨by rw [(unhide E).1, (unhide E).2], (unhide HB4).2⟩
  · have hA' : arrB A = false := by simpa using hA
    have hck : chkA A = 2 := by unfold chkA; rw [if_neg hA]
    rw [hck] at HCK
    have e1 : vtxE xs A i = 2 := by rw [hE, if_pos (.inl hA')]
    have e2 : vtxV xs A i = nul := by rw [hV, e1]; rfl
    rw [e1, e2]
    clear hE hV e1 e2 hA hA' hck
    unfold arC
    go_enter Try.func15, Try.ntmps15
    go_wp2_with (go_at_call 12; refine (unhide HCK _).mono ?_; rintro e w1 ⟨rfl, hx1⟩; have H2 := hide (And.intro ((unhide H1).1.ext hx1) (And.intro ((unhide H1).2.ext hx1) ((unhide HX).trans hx1))); obtain ⟨v0, v1, v2, v3⟩ := (unhide H2).2.1.vec4; have f0 := (unhide H2).2.1.free 0; have f1 := (unhide H2).2.1.free 1; have f2 := (unhide H2).2.1.free 2; have f3 := (unhide H2).2.1.free 3; clear hx1)
    have HB4 := hide (And.intro ((unhide H2).2.1.set4 (.int .i32 0) (.int .i32 0) (.int .i32 0) (.int .i32 0)) (ext_setV (x0 := .int .i32 0) (x1 := .int .i32 0) (x2 := .int .i32 0) (x3 := .int .i32 0) (unhide H2).2.2 (show w.heap.size ≤ w.heap.size + 1 by omega)))
    obtain ⟨r0, r1, r2, r3⟩ := Blk.vec4 (a := nul) (unhide HB4).1
    refine bodyPost_ret (v := .tuple #[.agg #[.int .i32 (nul 0), .int .i32 (nul 1), .int .i32 (nul 2), .int .i32 (nul 3)], .int .i64 2]) (by simp [results, Try.results15, go_sem, r0, r1, r2, r3]) rfl ⟨rfl, (unhide HB4).2⟩
end Go.Proofs.Ytmigakbccmkjoaa
