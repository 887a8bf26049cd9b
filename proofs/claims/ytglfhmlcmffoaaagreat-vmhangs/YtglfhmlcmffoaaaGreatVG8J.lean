/- Several texts in one. -/
import Derived.Test.YtglfhmlcmffoaaaGreatSGJ
import Derived.Test.YtglfhmlcmffoaaaGreatCEqJ
import Derived.Test.YtglfhmlcmffoaaaGreatVG1J
import Derived.Test.YtglfhmlcmffoaaaGreatVPlJ
/-
  The machine of registers: what an instruction's register becomes (Op 8). Written by mkvg.py.
-/
namespace Go.Proofs.YtglfhmlcmffoaaaGreat
open Go.RowKit
set_option linter.unusedVariables false
set_option linter.unusedSimpArgs false

set_option maxRecDepth 10000 in
set_option maxHeartbeats 4000000 in
theorem value_8 {w : World} {mb : Nat} {E : EnvC} {vr : Value} {O : OutC} {R : List (Nat → Int)} (I : Nat → Int) (e0 : I 0 = 8) (hm : Blk w mb (mcA E vr O) 71) (hr : VRow w vr R) (IR32 : ∀ x i, I32 (reg R x i)) (h3 : 1 ≤ I 3 ∧ I 3 ≤ 4) (h5 : 0 ≤ I 5 ∧ I 5 < (R.length : Int)) :
    Calls Tryz.prog 42 #[.pointer (some ⟨mb, 0, none⟩), .agg (insA I)] w fun e w' => e = .returned (.agg #[.int .i32 ((cut (I 3) (fun i => cvI (I 2) (I 1) (reg R (I 5) i))) 0), .int .i32 ((cut (I 3) (fun i => cvI (I 2) (I 1) (reg R (I 5) i))) 1), .int .i32 ((cut (I 3) (fun i => cvI (I 2) (I 1) (reg R (I 5) i))) 2), .int .i32 ((cut (I 3) (fun i => cvI (I 2) (I 1) (reg R (I 5) i))) 3)]) ∧ Ext w w' := by
  have hX : Ext w ((w.alloc (.cells (insA I) 59)).alloc (.cells #[.int .i32 (nul 0), .int .i32 (nul 1), .int .i32 (nul 2), .int .i32 (nul 3)] 28)) := ((Ext.refl w).alloc _).alloc _
  have hI : Blk ((w.alloc (.cells (insA I) 59)).alloc (.cells #[.int .i32 (nul 0), .int .i32 (nul 1), .int .i32 (nul 2), .int .i32 (nul 3)] 28)) w.heap.size (insA I) 59 := (Blk.new w _ _).alloc _
  have hB : Blk ((w.alloc (.cells (insA I) 59)).alloc (.cells #[.int .i32 (nul 0), .int .i32 (nul 1), .int .i32 (nul 2), .int .i32 (nul 3)] 28)) (w.heap.size + 1) #[.int .i32 (nul 0), .int .i32 (nul 1), .int .i32 (nul 2), .int .i32 (nul 3)] 28 := Blk.at (by simp)
  have D := hide (And.intro hI (And.intro hB (And.intro (hm.ext hX) (And.intro (hr.ext hX) hX))))
  have IR := hide IR32
  have HRW := hide hr
  have hmb := hm.lt
  clear hX hI hB hm hr IR32
  go_enter Tryz.func42, Tryz.ntmps42
  go_upto_region 1 with fail
  generalize hw2 : ((w.alloc (.cells (insA I) 59)).alloc (.cells #[.int .i32 (nul 0), .int .i32 (nul 1), .int .i32 (nul 2), .int .i32 (nul 3)] 28)) = w2 at D
  rw [show ((w.alloc (.cells (insA I) 59)).alloc (.cells #[.int .i32 0, .int .i32 0, .int .i32 0, .int .i32 0] 28)) = w2 from hw2]
  clear hw2
  obtain ⟨f0, f1, f2, f3⟩ := (unhide D).2.1.free4
  obtain ⟨n0, n1, n2, n3⟩ := (unhide D).2.1.vec4
  have hne : ¬ mb = w.heap.size := by omega
  have i0 := ins_at (unhide D).1 0 (v := .int .i64 (I 0)) rfl
  rw [e0] at i0
  have HD := hide (fun wx => converted_any (I 2) (I 1) (I 3) (reg R (I 5)) wx h3.1 h3.2 (unhide IR (I 5)))
  obtain ⟨b, off, cap, ev, hbl, hall⟩ := (unhide D).2.2.2.1.slc (by have := h5.1; have := h5.2; omega)
  have hbw : b < w.heap.size := by
    obtain ⟨b9, o9, c9, e9, h9, _⟩ := (unhide HRW).slc (by have := h5.1; have := h5.2; omega)
    rw [ev] at e9
    cases e9
    exact h9
  have m13 := mc_at (unhide D).2.2.1 13 (v := vr) rfl
  rw [ev] at m13
  clear HRW
  obtain ⟨k5, ek5, hk5, r50, r51, r52, r53⟩ := hall (I 5) h5.1 h5.2
  have i5 := ins_at (unhide D).1 5 (v := .int .i64 (I 5)) rfl
  rw [ek5] at i5
  obtain ⟨y5, hy5⟩ : ∃ y, reg R (I 5) = y := ⟨_, rfl⟩
  rw [hy5] at r50 r51 r52 r53
  have hbm : ¬ b = w2.heap.size := by omega
  rw [hy5] at HD
  obtain ⟨y, hy⟩ : ∃ y, cut (I 3) (fun i => cvI (I 2) (I 1) (y5 i)) = y := ⟨_, rfl⟩
  rw [hy] at HD
  have HY := hide (And.intro hy5 hy)
  have i1 := ins_at (unhide D).1 1 (v := .int .i64 (I 1)) rfl
  have i2 := ins_at (unhide D).1 2 (v := .int .i64 (I 2)) rfl
  have i3 := ins_at (unhide D).1 3 (v := .int .i64 (I 3)) rfl
  clear h3 h5 hall ek5 ev e0 hy5 hy
  generalize R.length = n at *
  go_wp2
  have HCL := hide (fun wx (hg : w2.grownBy wx (some (w.heap.size + 1))) => show wx.cell? ⟨mb, 13, none⟩ = some (.slice (some ⟨b, off, none⟩) n cap) ∧ wx.cell? ⟨w.heap.size, 5, none⟩ = some (.int .i64 (k5 : Int)) ∧ wx.cell? ⟨w.heap.size, 1, none⟩ = some (.int .i64 (I 1)) ∧ wx.cell? ⟨w.heap.size, 2, none⟩ = some (.int .i64 (I 2)) ∧ wx.cell? ⟨w.heap.size, 3, none⟩ = some (.int .i64 (I 3)) ∧ wx.cell? ⟨b, off + k5 * 4, none⟩ = some (.int .i32 (y5 0)) ∧ wx.cell? ⟨b, off + k5 * 4 + 1, none⟩ = some (.int .i32 (y5 1)) ∧ wx.cell? ⟨b, off + k5 * 4 + 2, none⟩ = some (.int .i32 (y5 2)) ∧ wx.cell? ⟨b, off + k5 * 4 + 3, none⟩ = some (.int .i32 (y5 3)) from
    ⟨cell_grown hg m13 (by omega), cell_grown hg i5 (by omega), cell_grown hg i1 (by omega), cell_grown hg i2 (by omega), cell_grown hg i3 (by omega), cell_grown hg r50 (by omega), cell_grown hg r51 (by omega), cell_grown hg r52 (by omega), cell_grown hg r53 (by omega)⟩)
  go_region_held3 (fun wx => wx.cell? ⟨mb, 13, none⟩ = some (.slice (some ⟨b, off, none⟩) n cap) ∧ wx.cell? ⟨w.heap.size, 5, none⟩ = some (.int .i64 (k5 : Int)) ∧ wx.cell? ⟨w.heap.size, 1, none⟩ = some (.int .i64 (I 1)) ∧ wx.cell? ⟨w.heap.size, 2, none⟩ = some (.int .i64 (I 2)) ∧ wx.cell? ⟨w.heap.size, 3, none⟩ = some (.int .i64 (I 3)) ∧ wx.cell? ⟨b, off + k5 * 4, none⟩ = some (.int .i32 (y5 0)) ∧ wx.cell? ⟨b, off + k5 * 4 + 1, none⟩ = some (.int .i32 (y5 1)) ∧ wx.cell? ⟨b, off + k5 * 4 + 2, none⟩ = some (.int .i32 (y5 2)) ∧ wx.cell? ⟨b, off + k5 * 4 + 3, none⟩ = some (.int .i32 (y5 3)))
    (first | with_reducible exact unhide HCL _ (grown_ofExt _ ((Ext.refl _).drew)) | with_reducible exact unhide HCL _ (grown_ofExt _ bx) | with_reducible exact unhide HCL _ (grown_set4 bx))
    (first | (go_at_call 72; refine (unhide HD _).mono ?_; rintro e w5 ⟨rfl, hxx⟩; have bx := ((Ext.refl w2).drew).trans hxx; have R9 := hide (And.intro ((unhide D).2.1.ext bx) ((unhide D).2.2.2.2.trans bx)); clear hxx f0 f1 f2 f3 n0 n1 n2 n3; obtain ⟨n0, n1, n2, n3⟩ := (unhide R9).1.vec4; obtain ⟨f0, f1, f2, f3⟩ := (unhide R9).1.free4))
  go_wp2
  obtain ⟨q0, q1, q2, q3⟩ := lay4 (unhide R9).1 (.int .i32 (y 0)) (.int .i32 (y 1)) (.int .i32 (y 2)) (.int .i32 (y 3))
  refine bodyPost_ret (v := .agg #[.int .i32 ((y) 0), .int .i32 ((y) 1), .int .i32 ((y) 2), .int .i32 ((y) 3)]) (by simp [results, Tryz.results42, go_sem, q0, q1, q2, q3]) rfl ⟨by first | rfl | (rw [(unhide HY).1, (unhide HY).2]), ?_⟩
  exact ext_set4 (unhide R9).2 (by omega)
end Go.Proofs.YtglfhmlcmffoaaaGreat

/-
  The machine of registers: what an instruction's register becomes (Op 9). Written by mkvg.py.
-/
namespace Go.Proofs.YtglfhmlcmffoaaaGreat
open Go.RowKit
set_option linter.unusedVariables false
set_option linter.unusedSimpArgs false

set_option maxRecDepth 10000 in
set_option maxHeartbeats 4000000 in
theorem value_9 {w : World} {mb : Nat} {E : EnvC} {vr : Value} {O : OutC} {R : List (Nat → Int)} {G : List (Img × Value × List Ent)} (I : Nat → Int) (e0 : I 0 = 9) (hm : Blk w mb (mcA E vr O) 71) (hr : VRow w vr R) (IR32 : ∀ x i, I32 (reg R x i)) (hg : GR w E.vi G) (h5 : 0 ≤ I 5 ∧ I 5 < (R.length : Int)) (h6 : 0 ≤ I 6 ∧ I 6 < (R.length : Int)) :
    Calls Tryz.prog 42 #[.pointer (some ⟨mb, 0, none⟩), .agg (insA I)] w fun e w' => e = .returned (.agg #[.int .i32 (texI G (reg R (I 5)) (reg R (I 6)) 0), .int .i32 (texI G (reg R (I 5)) (reg R (I 6)) 1), .int .i32 (texI G (reg R (I 5)) (reg R (I 6)) 2), .int .i32 (texI G (reg R (I 5)) (reg R (I 6)) 3)]) ∧ Ext w w' := by
  have hX : Ext w ((w.alloc (.cells (insA I) 59)).alloc (.cells #[.int .i32 (nul 0), .int .i32 (nul 1), .int .i32 (nul 2), .int .i32 (nul 3)] 28)) := ((Ext.refl w).alloc _).alloc _
  have hI : Blk ((w.alloc (.cells (insA I) 59)).alloc (.cells #[.int .i32 (nul 0), .int .i32 (nul 1), .int .i32 (nul 2), .int .i32 (nul 3)] 28)) w.heap.size (insA I) 59 := (Blk.new w _ _).alloc _
  have hB : Blk ((w.alloc (.cells (insA I) 59)).alloc (.cells #[.int .i32 (nul 0), .int .i32 (nul 1), .int .i32 (nul 2), .int .i32 (nul 3)] 28)) (w.heap.size + 1) #[.int .i32 (nul 0), .int .i32 (nul 1), .int .i32 (nul 2), .int .i32 (nul 3)] 28 := Blk.at (by simp)
  have D := hide (And.intro hI (And.intro hB (And.intro (hm.ext hX) (And.intro (hr.ext hX) hX))))
  have IR := hide IR32
  have HRW := hide hr
  have hmb := hm.lt
  have HT := hide (fun wx (hx : Ext w wx) => texture_any (reg R (I 5)) (reg R (I 6)) (hm.ext hx) (hg.ext hx) (IR32 (I 5)) (IR32 (I 6)))
  clear hg
  clear hX hI hB hm hr IR32
  go_enter Tryz.func42, Tryz.ntmps42
  go_upto_region 1 with fail
  generalize hw2 : ((w.alloc (.cells (insA I) 59)).alloc (.cells #[.int .i32 (nul 0), .int .i32 (nul 1), .int .i32 (nul 2), .int .i32 (nul 3)] 28)) = w2 at D
  rw [show ((w.alloc (.cells (insA I) 59)).alloc (.cells #[.int .i32 0, .int .i32 0, .int .i32 0, .int .i32 0] 28)) = w2 from hw2]
  clear hw2
  obtain ⟨f0, f1, f2, f3⟩ := (unhide D).2.1.free4
  obtain ⟨n0, n1, n2, n3⟩ := (unhide D).2.1.vec4
  have hne : ¬ mb = w.heap.size := by omega
  have i0 := ins_at (unhide D).1 0 (v := .int .i64 (I 0)) rfl
  rw [e0] at i0
  have HD := hide (fun wx (hx : Ext w2 wx) => unhide HT wx ((unhide D).2.2.2.2.trans hx))
  clear HT
  obtain ⟨b, off, cap, ev, hbl, hall⟩ := (unhide D).2.2.2.1.slc (by have := h5.1; have := h5.2; omega)
  have hbw : b < w.heap.size := by
    obtain ⟨b9, o9, c9, e9, h9, _⟩ := (unhide HRW).slc (by have := h5.1; have := h5.2; omega)
    rw [ev] at e9
    cases e9
    exact h9
  have m13 := mc_at (unhide D).2.2.1 13 (v := vr) rfl
  rw [ev] at m13
  clear HRW
  obtain ⟨k5, ek5, hk5, r50, r51, r52, r53⟩ := hall (I 5) h5.1 h5.2
  have i5 := ins_at (unhide D).1 5 (v := .int .i64 (I 5)) rfl
  rw [ek5] at i5
  obtain ⟨k6, ek6, hk6, r60, r61, r62, r63⟩ := hall (I 6) h6.1 h6.2
  have i6 := ins_at (unhide D).1 6 (v := .int .i64 (I 6)) rfl
  rw [ek6] at i6
  obtain ⟨y5, hy5⟩ : ∃ y, reg R (I 5) = y := ⟨_, rfl⟩
  rw [hy5] at r50 r51 r52 r53
  obtain ⟨y6, hy6⟩ : ∃ y, reg R (I 6) = y := ⟨_, rfl⟩
  rw [hy6] at r60 r61 r62 r63
  have hbm : ¬ b = w2.heap.size := by omega
  rw [hy5, hy6] at HD
  obtain ⟨y, hy⟩ : ∃ y, texI G y5 y6 = y := ⟨_, rfl⟩
  rw [hy] at HD
  have HY := hide (And.intro hy5 (And.intro hy6 hy))
  clear h5 h6 hall ek5 ek6 ev e0 hy5 hy6 hy
  generalize R.length = n at *
  go_wp2
  have HCL := hide (fun wx (hg : w2.grownBy wx (some (w.heap.size + 1))) => show wx.cell? ⟨mb, 13, none⟩ = some (.slice (some ⟨b, off, none⟩) n cap) ∧ wx.cell? ⟨w.heap.size, 5, none⟩ = some (.int .i64 (k5 : Int)) ∧ wx.cell? ⟨w.heap.size, 6, none⟩ = some (.int .i64 (k6 : Int)) ∧ wx.cell? ⟨b, off + k5 * 4, none⟩ = some (.int .i32 (y5 0)) ∧ wx.cell? ⟨b, off + k5 * 4 + 1, none⟩ = some (.int .i32 (y5 1)) ∧ wx.cell? ⟨b, off + k5 * 4 + 2, none⟩ = some (.int .i32 (y5 2)) ∧ wx.cell? ⟨b, off + k5 * 4 + 3, none⟩ = some (.int .i32 (y5 3)) ∧ wx.cell? ⟨b, off + k6 * 4, none⟩ = some (.int .i32 (y6 0)) ∧ wx.cell? ⟨b, off + k6 * 4 + 1, none⟩ = some (.int .i32 (y6 1)) ∧ wx.cell? ⟨b, off + k6 * 4 + 2, none⟩ = some (.int .i32 (y6 2)) ∧ wx.cell? ⟨b, off + k6 * 4 + 3, none⟩ = some (.int .i32 (y6 3)) from
    ⟨cell_grown hg m13 (by omega), cell_grown hg i5 (by omega), cell_grown hg i6 (by omega), cell_grown hg r50 (by omega), cell_grown hg r51 (by omega), cell_grown hg r52 (by omega), cell_grown hg r53 (by omega), cell_grown hg r60 (by omega), cell_grown hg r61 (by omega), cell_grown hg r62 (by omega), cell_grown hg r63 (by omega)⟩)
  go_region_held3 (fun wx => wx.cell? ⟨mb, 13, none⟩ = some (.slice (some ⟨b, off, none⟩) n cap) ∧ wx.cell? ⟨w.heap.size, 5, none⟩ = some (.int .i64 (k5 : Int)) ∧ wx.cell? ⟨w.heap.size, 6, none⟩ = some (.int .i64 (k6 : Int)) ∧ wx.cell? ⟨b, off + k5 * 4, none⟩ = some (.int .i32 (y5 0)) ∧ wx.cell? ⟨b, off + k5 * 4 + 1, none⟩ = some (.int .i32 (y5 1)) ∧ wx.cell? ⟨b, off + k5 * 4 + 2, none⟩ = some (.int .i32 (y5 2)) ∧ wx.cell? ⟨b, off + k5 * 4 + 3, none⟩ = some (.int .i32 (y5 3)) ∧ wx.cell? ⟨b, off + k6 * 4, none⟩ = some (.int .i32 (y6 0)) ∧ wx.cell? ⟨b, off + k6 * 4 + 1, none⟩ = some (.int .i32 (y6 1)) ∧ wx.cell? ⟨b, off + k6 * 4 + 2, none⟩ = some (.int .i32 (y6 2)) ∧ wx.cell? ⟨b, off + k6 * 4 + 3, none⟩ = some (.int .i32 (y6 3)))
    (first | with_reducible exact unhide HCL _ (grown_ofExt _ ((Ext.refl _).drew)) | with_reducible exact unhide HCL _ (grown_ofExt _ bx) | with_reducible exact unhide HCL _ (grown_set4 bx))
    (first | (go_at_call 73; refine (unhide HD _ ((Ext.refl w2).drew)).mono ?_; rintro e w5 ⟨rfl, hxx⟩; have bx := ((Ext.refl w2).drew).trans hxx; have R9 := hide (And.intro ((unhide D).2.1.ext bx) ((unhide D).2.2.2.2.trans bx)); clear hxx f0 f1 f2 f3 n0 n1 n2 n3; obtain ⟨n0, n1, n2, n3⟩ := (unhide R9).1.vec4; obtain ⟨f0, f1, f2, f3⟩ := (unhide R9).1.free4))
  go_wp2
  obtain ⟨q0, q1, q2, q3⟩ := lay4 (unhide R9).1 (.int .i32 (y 0)) (.int .i32 (y 1)) (.int .i32 (y 2)) (.int .i32 (y 3))
  refine bodyPost_ret (v := .agg #[.int .i32 ((y) 0), .int .i32 ((y) 1), .int .i32 ((y) 2), .int .i32 ((y) 3)]) (by simp [results, Tryz.results42, go_sem, q0, q1, q2, q3]) rfl ⟨by first | rfl | (rw [(unhide HY).1, (unhide HY).2.1, (unhide HY).2.2]), ?_⟩
  exact ext_set4 (unhide R9).2 (by omega)
end Go.Proofs.YtglfhmlcmffoaaaGreat

/-
  The machine of registers: a run.
-/
namespace Go.Proofs.YtglfhmlcmffoaaaGreat
open Go.RowKit
set_option linter.unusedVariables false
set_option linter.unusedSimpArgs false

/-- Surroundings that a code may be run in. -/
structure Fit (C : Cod) (S : Sur) : Prop where
  att : (S.att.length : Int) = C.attr
  uni : (S.uni.length : Int) = C.unif
  vry : (S.vry.length : Int) = if C.stage = 1 then 0 else C.vary
  a32 : ∀ x i, I32 (reg S.att x i)
  u32 : ∀ x i, I32 (reg S.uni x i)
  v32 : ∀ x i, I32 (reg S.vry x i)
  c32 : ∀ i, I32 (S.co i)
  p32 : ∀ i, I32 (S.pt i)
theorem load_in {C : Cod} {S : Sur} {I : Nat → Int} (hf : Fit C S) (h : loadB C I = true) :
    (I 1 = 1 → 0 ≤ I 5 ∧ I 5 < (S.att.length : Int)) ∧ (I 1 = 2 → 0 ≤ I 5 ∧ I 5 < (S.uni.length : Int)) ∧ (I 1 = 3 → 0 ≤ I 5 ∧ I 5 < (S.vry.length : Int)) := by
  unfold loadB at h
  refine ⟨fun e => ?_, fun e => ?_, fun e => ?_⟩
  · rw [if_pos e] at h
    simp only [Bool.and_eq_true, inB_iff] at h
    rw [hf.att]
    exact h.2
  · rw [if_neg (by omega), if_pos e] at h
    simp only [inB_iff] at h
    rw [hf.uni]
    exact h
  · rw [if_neg (by omega), if_neg (by omega), if_pos e] at h
    simp only [Bool.and_eq_true, inB_iff, beq_iff_eq] at h
    rw [hf.vry, if_neg (by omega)]
    exact h.2
theorem stor_in {C : Cod} {I : Nat → Int} (h : storB C I = true) : (I 1 = 1 ∨ I 1 = 2 ∨ I 1 = 3 ∨ I 1 = 4) ∧ (I 1 = 3 → C.stage = 1 ∧ 0 ≤ I 5 ∧ I 5 < C.vary) := by
  unfold storB at h
  refine ⟨?_, fun e => ?_⟩
  · repeat' split at h
    all_goals first | omega | cases h
  · rw [if_neg (by omega), if_pos e] at h
    simp only [Bool.and_eq_true, inB_iff, beq_iff_eq] at h
    exact h

/-- What value answers, for an instruction of a code that may be. -/
theorem value_any {C : Cod} {S : Sur} {G : List (Img × Value × List Ent)} {w0 w : World} {mb : Nat} {E : EnvC} {vr vy : Value} {s : St} {n k : Nat} (I : Nat → Int) (hM : MAt w0 w mb E vr vy s) (hS : SurAt w0 E S) (hG : GR w0 E.vi G) (hf : Fit C S)
    (hR : (s.R.length : Int) = C.regs) (h32 : ∀ x i, I32 (reg s.R x i)) (ha : Ask C n k I) (hn : I 0 ≠ 4 ∧ I 0 ≠ 10 ∧ I 0 ≠ 11 ∧ I 0 ≠ 12) :
    Calls Tryz.prog 42 #[.pointer (some ⟨mb, 0, none⟩), .agg (insA I)] w fun e w' => e = .returned (.agg #[.int .i32 (valP S G s.R I 0), .int .i32 (valP S G s.R I 1), .int .i32 (valP S G s.R I 2), .int .i32 (valP S G s.R I 3)]) ∧ Ext w w' := by
  have hm := hM.1
  have hr := hM.2.1.row
  have hx := hM.2.2.2.1
  have r5 : I 0 = 2 ∨ I 0 = 5 ∨ I 0 = 6 ∨ I 0 = 7 ∨ I 0 = 8 ∨ I 0 = 9 → 0 ≤ I 5 ∧ I 5 < (s.R.length : Int) := fun e => by rw [hR]; exact ha.r5 e
  have r6 : I 0 = 4 ∨ I 0 = 5 ∨ I 0 = 9 ∨ I 0 = 11 → 0 ≤ I 6 ∧ I 6 < (s.R.length : Int) := fun e => by rw [hR]; exact ha.r6 e
  have r7 : I 0 = 5 → 0 ≤ I 7 ∧ I 7 < (s.R.length : Int) := fun e => by rw [hR]; exact ha.r7 e
  have V : ∀ o : Int, I 0 = o → valP S G s.R I = (if o = 1 then cut 4 (fun k => I (8 + k))
      else if o = 2 then reg s.R (I 5)
      else if o = 3 then loadP S I
      else if o = 5 then doI (I 1) (I 2) (I 3) (reg s.R (I 5)) (reg s.R (I 6)) (reg s.R (I 7))
      else if o = 6 then cut (I 3) (fun i => reg s.R (I 5) (pl (pcs I) i))
      else if o = 7 then layK (reg s.R (I 4)) (reg s.R (I 5)) (pcs I) (pcs I).length
      else if o = 8 then cut (I 3) (fun i => cvI (I 2) (I 1) (reg s.R (I 5) i))
      else texI G (reg s.R (I 5)) (reg s.R (I 6))) := fun o e => by subst e; rfl
  rcases ha.op with e | e | e | e | e | e | e | e | e | e | e | e
  · rw [V 1 e]; exact value_1 I e hm hr h32
  · rw [V 2 e]; exact value_2 I e hm hr h32 (r5 (by omega))
  · rw [V 3 e]
    obtain ⟨l1, l2, l3⟩ := load_in hf (ha.load e)
    exact value_3 I e hm hr h32 (hS.ext hx) l1 l2 l3
  · omega
  · rw [V 5 e]; exact value_5 I e hm hr h32 (ha.cnt (by omega)) (r5 (by omega)) (r6 (by omega)) (r7 e)
  · rw [V 6 e]; exact value_6 I e hm hr h32 (ha.cnt (by omega)) (ha.plc (by omega)) (r5 (by omega))
  · rw [V 7 e]; exact value_7 I e hm hr h32 (ha.cnt (by omega)) (ha.plc (by omega)) (ha.once e) (by have := ha.dst (by rw [e]; rfl); rw [hR]; exact this) (r5 (by omega))
  · rw [V 8 e]; exact value_8 I e hm hr h32 (ha.cnt (by omega)) (r5 (by omega))
  · rw [V 9 e]; exact value_9 I e hm hr h32 (hG.ext hx) (r5 (by omega)) (r6 (by omega))
  · omega
  · omega
  · omega
end Go.Proofs.YtglfhmlcmffoaaaGreat

/-
  Numbers that stay within 32 bits: what functions do, what textures come to, what registers become.
-/
namespace Go.Proofs.YtglfhmlcmffoaaaGreat
open Go.RowKit
set_option linter.unusedVariables false
set_option linter.unusedSimpArgs false

theorem cut4_i32 {f : Nat → Int} (h : ∀ i, i < 4 → I32 (f i)) (i : Nat) : I32 (cut 4 f i) := by
  unfold cut
  split
  · exact h i (by omega)
  · unfold I32; omega
theorem fstI_i32 {x : Int} (h : I32 x) (i : Nat) : I32 (fstI x i) := by
  unfold fstI
  split
  · exact h
  · unfold I32; omega
theorem crsI_i32 (a b : Nat → Int) (i : Nat) : I32 (crsI a b i) := by
  unfold crsI crossI
  repeat' split
  all_goals first | exact subI_i32 _ _ | (unfold I32; omega)
theorem signI_i32 (a : Int) : I32 (signI a) := by unfold signI clampI I32; omega
theorem oneI_i32 (op : Int) {a : Int} (h : I32 a) : I32 (oneI op a) := by
  unfold oneI
  repeat' split
  · exact rawI_i32 _
  · exact rawI_i32 _
  · exact signI_i32 _
  · exact floorI_i32 h
  · exact subI_i32 _ _
theorem sqrtI_i32 (x : Int) : I32 (sqrtI x) := by
  unfold sqrtI
  split
  · unfold I32; omega
  · exact rawI_i32 _
theorem invI_i32 (x : Int) : I32 (invI x) := by
  unfold invI
  split
  · unfold I32; omega
  · exact rawI_i32 _
theorem sinI_i32 (x : Int) : I32 (sinI x) := by have := sineI_bounds (phaseI x); unfold sinI I32; omega
theorem cosI_i32 (x : Int) : I32 (cosI x) := by have := sineI_bounds ((phaseI x + 1073741824) % 4294967296); unfold cosI I32; omega
theorem powerI_i32 (x y : Int) : I32 (powerI x y) := by
  unfold powerI
  split
  · unfold I32; omega
  · exact exp2I_i32 _
theorem mtI_i32 (fn n : Int) {a b : Nat → Int} (ha : ∀ i, I32 (a i)) (i : Nat) : I32 (mtI fn n a b i) := by
  unfold mtI
  split; exact cut_i32 (fun i => sqrtI_i32 _) i
  split; exact cut_i32 (fun i => invI_i32 _) i
  split; exact cut_i32 (fun i => exp2I_i32 _) i
  split; exact cut_i32 (fun i => log2I_i32 (ha i)) i
  split; exact cut_i32 (fun i => sinI_i32 _) i
  split; exact cut_i32 (fun i => cosI_i32 _) i
  exact cut_i32 (fun i => powerI_i32 _ _) i
theorem bcI_i32 (fn n : Int) {a b : Nat → Int} (ha : ∀ i, I32 (a i)) (hb : ∀ i, I32 (b i)) (i : Nat) : I32 (bcI fn n a b i) := by
  unfold bcI
  cases ofTwoN fn with
  | some op => exact cut_i32 (fun i => twoI_i32 _ (ha i) (hb i)) i
  | none =>
    cases ofOneN fn with
    | some op => exact cut_i32 (fun i => oneI_i32 _ (ha i)) i
    | none => exact mtI_i32 fn n ha i
theorem clampI_i32 {a b c : Int} (ha : I32 a) (hb : I32 b) (hc : I32 c) : I32 (clampI a b c) := by unfold clampI I32 at *; omega
theorem ofI_i32 (fn n : Int) {a b c : Nat → Int} (ha : ∀ i, I32 (a i)) (hb : ∀ i, I32 (b i)) (hc : ∀ i, I32 (c i)) (i : Nat) : I32 (ofI fn n a b c i) := by
  unfold ofI
  split; exact cut_i32 (fun i => addI_i32 _ _) i
  split; exact cut_i32 (fun i => clampI_i32 (ha i) (hb i) (hc i)) i
  split; exact fstI_i32 (sumI_i32 _ _) i
  split; exact fstI_i32 (lengthI_i32 _ _) i
  split; exact crsI_i32 _ _ i
  split; exact unitI_i32 _ _ i
  exact bcI_i32 fn n ha hb i
theorem doI_i32 (fn base n : Int) {a b c : Nat → Int} (ha : ∀ i, I32 (a i)) (hb : ∀ i, I32 (b i)) (hc : ∀ i, I32 (c i)) (i : Nat) : I32 (doI fn base n a b c i) := by
  unfold doI
  split; exact truI_i32 _ i
  split; exact truI_i32 _ i
  split; exact truI_i32 _ i
  split; exact truI_i32 _ i
  split; exact truI_i32 _ i
  split; exact truI_i32 _ i
  split; exact truI_i32 _ i
  split; exact oiI_i32 _ _ _ _ i
  exact ofI_i32 fn n ha hb hc i
theorem txF_bd {I : Img} (h1 : 1 ≤ I.f.toNat) (h7 : I.f.toNat ≤ 7) (l : Lev) (i j : Int) (k : Nat) (hk : k < 4) : 0 ≤ txI I l i j k ∧ txI I l i j k ≤ 65536 := col_bd _ _ h1 h7 k hk
theorem atV_i32 (I : Img) (u q lod : Int) (i : Nat) (hi : i < 4) : I32 (atV I u q lod i) := by
  unfold atV
  split
  · unfold nul I32; omega
  · rename_i h
    by_cases hL : I.L.length = 0
    · have e : cmpB I = false := by simp [cmpB, hasB, hL]
      unfold atI
      rw [if_pos e]
      unfold blk0 I32
      split <;> omega
    have hf : 1 ≤ I.f.toNat ∧ I.f.toNat ≤ 7 := by
      simp only [Bool.not_eq_false] at h
      have := siz_ne ((okB_iff.1 h).2.2.2.1 (by omega)).1
      omega
    have b := fun l i j k hk => txF_bd (I := I) hf.1 hf.2 l i j k hk
    unfold atI
    split
    · unfold blk0 I32; split <;> omega
    split
    · unfold lnI
      have := lin_bd (lo := 0) (hi := 65536) (b (levAt I (askL I lod)) (((levAt I (askL I lod)).1 * u - 32768) / 65536) (((levAt I (askL I lod)).2.1 * q - 32768) / 65536) i hi) (b (levAt I (askL I lod)) (((levAt I (askL I lod)).1 * u - 32768) / 65536 + 1) (((levAt I (askL I lod)).2.1 * q - 32768) / 65536) i hi)
        (b (levAt I (askL I lod)) (((levAt I (askL I lod)).1 * u - 32768) / 65536) (((levAt I (askL I lod)).2.1 * q - 32768) / 65536 + 1) i hi) (b (levAt I (askL I lod)) (((levAt I (askL I lod)).1 * u - 32768) / 65536 + 1) (((levAt I (askL I lod)).2.1 * q - 32768) / 65536 + 1) i hi)
        (f := ((levAt I (askL I lod)).1 * u - 32768) % 65536) (g := ((levAt I (askL I lod)).2.1 * q - 32768) % 65536) (by omega) (by omega)
      unfold I32
      omega
    · unfold nrI
      have := b (levAt I (askL I lod)) ((levAt I (askL I lod)).1 * u / 65536) ((levAt I (askL I lod)).2.1 * q / 65536) i hi
      unfold I32
      omega
theorem texI_i32 (G : List (Img × Value × List Ent)) (a b : Nat → Int) (i : Nat) : I32 (texI G a b i) := by
  unfold texI
  refine cut4_i32 (fun i hi => ?_) i
  split
  · split
    · exact atV_i32 _ _ _ _ i hi
    · unfold blackV I32; split <;> omega
  · unfold blackV I32; split <;> omega
theorem loadP_i32 {C : Cod} {S : Sur} (hf : Fit C S) (I : Nat → Int) (i : Nat) : I32 (loadP S I i) := by
  unfold loadP
  split; exact hf.a32 _ _
  split; exact hf.u32 _ _
  split; exact hf.v32 _ _
  split; exact hf.c32 _
  split; exact truI_i32 _ _
  have := hf.p32 0
  have := hf.p32 1
  show I32 (if i = 0 then S.pt 0 else if i = 1 then S.pt 1 else 0)
  repeat' split
  all_goals first | assumption | (unfold I32; omega)
theorem valP_i32 {C : Cod} {S : Sur} {G : List (Img × Value × List Ent)} {R : List (Nat → Int)} {I : Nat → Int} (hf : Fit C S) (h : ∀ x i, I32 (reg R x i)) (hI : OkI I) (i : Nat) : I32 (valP S G R I i) := by
  unfold valP
  split; exact cut4_i32 (fun i hi => hI.2.1 i hi) i
  split; exact h _ _
  split; exact loadP_i32 hf I i
  split; exact doI_i32 _ _ _ (h _) (h _) (h _) i
  split; exact cut_i32 (fun i => h _ _) i
  split; exact layK_i32 (h _) (h _) _ _ i
  split; exact cut_i32 (fun i => cvI_i32 _ _ (h _ _)) i
  exact texI_i32 _ _ _ i
end Go.Proofs.YtglfhmlcmffoaaaGreat
