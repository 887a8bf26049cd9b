/- Several texts in one. -/
import Derived.Test.YtglfhmlcmffoaaaGreatSGJ
/-
  The machine of registers: what an instruction's register becomes (Op 1). Written by mkvg.py.
-/
namespace Go.Proofs.YtglfhmlcmffoaaaGreat
open Go.RowKit
set_option linter.unusedVariables false
set_option linter.unusedSimpArgs false

set_option maxRecDepth 10000 in
set_option maxHeartbeats 4000000 in
theorem value_1 {w : World} {mb : Nat} {E : EnvC} {vr : Value} {O : OutC} {R : List (Nat → Int)} (I : Nat → Int) (e0 : I 0 = 1) (hm : Blk w mb (mcA E vr O) 71) (hr : VRow w vr R) (IR32 : ∀ x i, I32 (reg R x i))  :
    Calls Tryz.prog 42 #[.pointer (some ⟨mb, 0, none⟩), .agg (insA I)] w fun e w' => e = .returned (.agg #[.int .i32 ((fun k => I (8 + k)) 0), .int .i32 ((fun k => I (8 + k)) 1), .int .i32 ((fun k => I (8 + k)) 2), .int .i32 ((fun k => I (8 + k)) 3)]) ∧ Ext w w' := by
  have hX : Ext w ((w.alloc (.cells (insA I) 59)).alloc (.cells #[.int .i32 (nul 0), .int .i32 (nul 1), .int .i32 (nul 2), .int .i32 (nul 3)] 28)) := ((Ext.refl w).alloc _).alloc _
  have hI : Blk ((w.alloc (.cells (insA I) 59)).alloc (.cells #[.int .i32 (nul 0), .int .i32 (nul 1), .int .i32 (nul 2), .int .i32 (nul 3)] 28)) w.heap.size (insA I) 59 := (Blk.new w _ _).alloc _
  have hB : Blk ((w.alloc (.cells (insA I) 59)).alloc (.cells #[.int .i32 (nul 0), .int .i32 (nul 1), .int .i32 (nul 2), .int .i32 (nul 3)] 28)) (w.heap.size + 1) #[.int .i32 (nul 0), .int .i32 (nul 1), .int .i32 (nul 2), .int .i32 (nul 3)] 28 := Blk.at (by simp)
  have D := hide (And.intro hI (And.intro hB (And.intro (hm.ext hX) (And.intro (hr.ext hX) hX))))
  have IR := hide IR32
  have HRW := hide hr
  have hmb := hm.lt
  clear hX hI hB hm hr IR32
  go_enter Tryz.func42, Tryz.ntmps42
  go_upto_region 1 with fail
  generalize hw2 : ((w.alloc (.cells (insA I) 59)).alloc (.cells #[.int .i32 (nul 0), .int .i32 (nul 1), .int .i32 (nul 2), .int .i32 (nul 3)] 28)) = w2 at D
  rw [show ((w.alloc (.cells (insA I) 59)).alloc (.cells #[.int .i32 0, .int .i32 0, .int .i32 0, .int .i32 0] 28)) = w2 from hw2]
  clear hw2
  obtain ⟨f0, f1, f2, f3⟩ := (unhide D).2.1.free4
  obtain ⟨n0, n1, n2, n3⟩ := (unhide D).2.1.vec4
  have hne : ¬ mb = w.heap.size := by omega
  have i0 := ins_at (unhide D).1 0 (v := .int .i64 (I 0)) rfl
  rw [e0] at i0
  have i8 := ins_at (unhide D).1 8 (v := .int .i32 (I 8)) rfl
  have i9 := ins_at (unhide D).1 9 (v := .int .i32 (I 9)) rfl
  have i10 := ins_at (unhide D).1 10 (v := .int .i32 (I 10)) rfl
  have i11 := ins_at (unhide D).1 11 (v := .int .i32 (I 11)) rfl
  clear e0
  go_wp2
  obtain ⟨q0, q1, q2, q3⟩ := lay4 (unhide D).2.1 (.int .i32 ((fun k => I (8 + k)) 0)) (.int .i32 ((fun k => I (8 + k)) 1)) (.int .i32 ((fun k => I (8 + k)) 2)) (.int .i32 ((fun k => I (8 + k)) 3))
  refine bodyPost_ret (v := .agg #[.int .i32 (((fun k => I (8 + k))) 0), .int .i32 (((fun k => I (8 + k))) 1), .int .i32 (((fun k => I (8 + k))) 2), .int .i32 (((fun k => I (8 + k))) 3)]) (by simp [results, Tryz.results42, go_sem, q0, q1, q2, q3]) rfl ⟨by first | rfl | (rfl), ?_⟩
  exact ext_set4 (unhide D).2.2.2.2 (by omega)
end Go.Proofs.YtglfhmlcmffoaaaGreat

/-
  The machine of registers: what an instruction's register becomes (Op 2). Written by mkvg.py.
-/
namespace Go.Proofs.YtglfhmlcmffoaaaGreat
open Go.RowKit
set_option linter.unusedVariables false
set_option linter.unusedSimpArgs false

set_option maxRecDepth 10000 in
set_option maxHeartbeats 4000000 in
theorem value_2 {w : World} {mb : Nat} {E : EnvC} {vr : Value} {O : OutC} {R : List (Nat → Int)} (I : Nat → Int) (e0 : I 0 = 2) (hm : Blk w mb (mcA E vr O) 71) (hr : VRow w vr R) (IR32 : ∀ x i, I32 (reg R x i)) (h5 : 0 ≤ I 5 ∧ I 5 < (R.length : Int)) :
    Calls Tryz.prog 42 #[.pointer (some ⟨mb, 0, none⟩), .agg (insA I)] w fun e w' => e = .returned (.agg #[.int .i32 (reg R (I 5) 0), .int .i32 (reg R (I 5) 1), .int .i32 (reg R (I 5) 2), .int .i32 (reg R (I 5) 3)]) ∧ Ext w w' := by
  have hX : Ext w ((w.alloc (.cells (insA I) 59)).alloc (.cells #[.int .i32 (nul 0), .int .i32 (nul 1), .int .i32 (nul 2), .int .i32 (nul 3)] 28)) := ((Ext.refl w).alloc _).alloc _
  have hI : Blk ((w.alloc (.cells (insA I) 59)).alloc (.cells #[.int .i32 (nul 0), .int .i32 (nul 1), .int .i32 (nul 2), .int .i32 (nul 3)] 28)) w.heap.size (insA I) 59 := (Blk.new w _ _).alloc _
  have hB : Blk ((w.alloc (.cells (insA I) 59)).alloc (.cells #[.int .i32 (nul 0), .int .i32 (nul 1), .int .i32 (nul 2), .int .i32 (nul 3)] 28)) (w.heap.size + 1) #[.int .i32 (nul 0), .int .i32 (nul 1), .int .i32 (nul 2), .int .i32 (nul 3)] 28 := Blk.at (by simp)
  have D := hide (And.intro hI (And.intro hB (And.intro (hm.ext hX) (And.intro (hr.ext hX) hX))))
  have IR := hide IR32
  have HRW := hide hr
  have hmb := hm.lt
  clear hX hI hB hm hr IR32
  go_enter Tryz.func42, Tryz.ntmps42
  go_upto_region 1 with fail
  generalize hw2 : ((w.alloc (.cells (insA I) 59)).alloc (.cells #[.int .i32 (nul 0), .int .i32 (nul 1), .int .i32 (nul 2), .int .i32 (nul 3)] 28)) = w2 at D
  rw [show ((w.alloc (.cells (insA I) 59)).alloc (.cells #[.int .i32 0, .int .i32 0, .int .i32 0, .int .i32 0] 28)) = w2 from hw2]
  clear hw2
  obtain ⟨f0, f1, f2, f3⟩ := (unhide D).2.1.free4
  obtain ⟨n0, n1, n2, n3⟩ := (unhide D).2.1.vec4
  have hne : ¬ mb = w.heap.size := by omega
  have i0 := ins_at (unhide D).1 0 (v := .int .i64 (I 0)) rfl
  rw [e0] at i0
  obtain ⟨b, off, cap, ev, hbl, hall⟩ := (unhide D).2.2.2.1.slc (by have := h5.1; have := h5.2; omega)
  have hbw : b < w.heap.size := by
    obtain ⟨b9, o9, c9, e9, h9, _⟩ := (unhide HRW).slc (by have := h5.1; have := h5.2; omega)
    rw [ev] at e9
    cases e9
    exact h9
  have m13 := mc_at (unhide D).2.2.1 13 (v := vr) rfl
  rw [ev] at m13
  clear HRW
  obtain ⟨k5, ek5, hk5, r50, r51, r52, r53⟩ := hall (I 5) h5.1 h5.2
  have i5 := ins_at (unhide D).1 5 (v := .int .i64 (I 5)) rfl
  rw [ek5] at i5
  obtain ⟨y5, hy5⟩ : ∃ y, reg R (I 5) = y := ⟨_, rfl⟩
  rw [hy5] at r50 r51 r52 r53
  have hbm : ¬ b = w2.heap.size := by omega
  clear h5 hall ek5 ev e0
  generalize R.length = n at *
  go_wp2
  go_region_with (fail)
  all_goals
    go_wp2
    obtain ⟨q0, q1, q2, q3⟩ := lay4 (unhide D).2.1 (.int .i32 (y5 0)) (.int .i32 (y5 1)) (.int .i32 (y5 2)) (.int .i32 (y5 3))
    refine bodyPost_ret (v := .agg #[.int .i32 ((y5) 0), .int .i32 ((y5) 1), .int .i32 ((y5) 2), .int .i32 ((y5) 3)]) (by simp [results, Tryz.results42, go_sem, q0, q1, q2, q3]) rfl ⟨by first | rfl | (rw [hy5]), ?_⟩
    exact ext_set4 ((unhide D).2.2.2.2.drew) (by omega)
end Go.Proofs.YtglfhmlcmffoaaaGreat

/-
  The machine of registers: what an instruction's register becomes (Op 3). Written by mkvg.py.
-/
namespace Go.Proofs.YtglfhmlcmffoaaaGreat
open Go.RowKit
set_option linter.unusedVariables false
set_option linter.unusedSimpArgs false

set_option maxRecDepth 10000 in
set_option maxHeartbeats 4000000 in
theorem value_3 {w : World} {mb : Nat} {E : EnvC} {vr : Value} {O : OutC} {R : List (Nat → Int)} {S : Sur} (I : Nat → Int) (e0 : I 0 = 3) (hm : Blk w mb (mcA E vr O) 71) (hr : VRow w vr R) (IR32 : ∀ x i, I32 (reg R x i)) (hs : SurAt w E S) (g1 : I 1 = 1 → 0 ≤ I 5 ∧ I 5 < (S.att.length : Int)) (g2 : I 1 = 2 → 0 ≤ I 5 ∧ I 5 < (S.uni.length : Int)) (g3 : I 1 = 3 → 0 ≤ I 5 ∧ I 5 < (S.vry.length : Int)) :
    Calls Tryz.prog 42 #[.pointer (some ⟨mb, 0, none⟩), .agg (insA I)] w fun e w' => e = .returned (.agg #[.int .i32 (loadP S I 0), .int .i32 (loadP S I 1), .int .i32 (loadP S I 2), .int .i32 (loadP S I 3)]) ∧ Ext w w' := by
  have hX : Ext w ((w.alloc (.cells (insA I) 59)).alloc (.cells #[.int .i32 (nul 0), .int .i32 (nul 1), .int .i32 (nul 2), .int .i32 (nul 3)] 28)) := ((Ext.refl w).alloc _).alloc _
  have hI : Blk ((w.alloc (.cells (insA I) 59)).alloc (.cells #[.int .i32 (nul 0), .int .i32 (nul 1), .int .i32 (nul 2), .int .i32 (nul 3)] 28)) w.heap.size (insA I) 59 := (Blk.new w _ _).alloc _
  have hB : Blk ((w.alloc (.cells (insA I) 59)).alloc (.cells #[.int .i32 (nul 0), .int .i32 (nul 1), .int .i32 (nul 2), .int .i32 (nul 3)] 28)) (w.heap.size + 1) #[.int .i32 (nul 0), .int .i32 (nul 1), .int .i32 (nul 2), .int .i32 (nul 3)] 28 := Blk.at (by simp)
  have D := hide (And.intro hI (And.intro hB (And.intro (hm.ext hX) (And.intro (hr.ext hX) hX))))
  have IR := hide IR32
  have HRW := hide hr
  have hmb := hm.lt
  have HL := hide (fun wx (hx : Ext w wx) => loadM_any I (hm.ext hx) (hs.ext hx) g1 g2 g3)
  clear hs g1 g2 g3
  clear hX hI hB hm hr IR32
  go_enter Tryz.func42, Tryz.ntmps42
  go_upto_region 1 with fail
  generalize hw2 : ((w.alloc (.cells (insA I) 59)).alloc (.cells #[.int .i32 (nul 0), .int .i32 (nul 1), .int .i32 (nul 2), .int .i32 (nul 3)] 28)) = w2 at D
  rw [show ((w.alloc (.cells (insA I) 59)).alloc (.cells #[.int .i32 0, .int .i32 0, .int .i32 0, .int .i32 0] 28)) = w2 from hw2]
  clear hw2
  obtain ⟨f0, f1, f2, f3⟩ := (unhide D).2.1.free4
  obtain ⟨n0, n1, n2, n3⟩ := (unhide D).2.1.vec4
  have hne : ¬ mb = w.heap.size := by omega
  have i0 := ins_at (unhide D).1 0 (v := .int .i64 (I 0)) rfl
  rw [e0] at i0
  have HL2 := hide (unhide HL w2 (unhide D).2.2.2.2)
  have HI := hide (unhide D).1
  clear HL e0
  go_wp2_with (first
    | refine wpList_load_row rfl 59 (.tmp 3) rfl w.heap.size rfl 59 (insA I) (0, 0) _ (unhide HI) Tryz.underlying59 rfl sizeI16 ?_
    | (go_at_call 69; refine (unhide HL2).mono ?_; rintro e w5 ⟨rfl, hx⟩; have R9 := hide (And.intro ((unhide D).2.1.ext hx) ((unhide D).2.2.2.2.trans hx)); clear hx D f0 f1 f2 f3 n0 n1 n2 n3; obtain ⟨n0, n1, n2, n3⟩ := (unhide R9).1.vec4; obtain ⟨f0, f1, f2, f3⟩ := (unhide R9).1.free4))
  obtain ⟨q0, q1, q2, q3⟩ := lay4 (unhide R9).1 (.int .i32 (loadP S I 0)) (.int .i32 (loadP S I 1)) (.int .i32 (loadP S I 2)) (.int .i32 (loadP S I 3))
  refine bodyPost_ret (v := .agg #[.int .i32 ((loadP S I) 0), .int .i32 ((loadP S I) 1), .int .i32 ((loadP S I) 2), .int .i32 ((loadP S I) 3)]) (by simp [results, Tryz.results42, go_sem, q0, q1, q2, q3]) rfl ⟨by first | rfl | (rfl), ?_⟩
  exact ext_set4 (unhide R9).2 (by omega)
end Go.Proofs.YtglfhmlcmffoaaaGreat

/-
  The machine of registers: what an instruction's register becomes (Op 5). Written by mkvg.py.
-/
namespace Go.Proofs.YtglfhmlcmffoaaaGreat
open Go.RowKit
set_option linter.unusedVariables false
set_option linter.unusedSimpArgs false

set_option maxRecDepth 10000 in
set_option maxHeartbeats 4000000 in
theorem value_5 {w : World} {mb : Nat} {E : EnvC} {vr : Value} {O : OutC} {R : List (Nat → Int)} (I : Nat → Int) (e0 : I 0 = 5) (hm : Blk w mb (mcA E vr O) 71) (hr : VRow w vr R) (IR32 : ∀ x i, I32 (reg R x i)) (h3 : 1 ≤ I 3 ∧ I 3 ≤ 4) (h5 : 0 ≤ I 5 ∧ I 5 < (R.length : Int)) (h6 : 0 ≤ I 6 ∧ I 6 < (R.length : Int)) (h7 : 0 ≤ I 7 ∧ I 7 < (R.length : Int)) :
    Calls Tryz.prog 42 #[.pointer (some ⟨mb, 0, none⟩), .agg (insA I)] w fun e w' => e = .returned (.agg #[.int .i32 (doI (I 1) (I 2) (I 3) (reg R (I 5)) (reg R (I 6)) (reg R (I 7)) 0), .int .i32 (doI (I 1) (I 2) (I 3) (reg R (I 5)) (reg R (I 6)) (reg R (I 7)) 1), .int .i32 (doI (I 1) (I 2) (I 3) (reg R (I 5)) (reg R (I 6)) (reg R (I 7)) 2), .int .i32 (doI (I 1) (I 2) (I 3) (reg R (I 5)) (reg R (I 6)) (reg R (I 7)) 3)]) ∧ Ext w w' := by
  have hX : Ext w ((w.alloc (.cells (insA I) 59)).alloc (.cells #[.int .i32 (nul 0), .int .i32 (nul 1), .int .i32 (nul 2), .int .i32 (nul 3)] 28)) := ((Ext.refl w).alloc _).alloc _
  have hI : Blk ((w.alloc (.cells (insA I) 59)).alloc (.cells #[.int .i32 (nul 0), .int .i32 (nul 1), .int .i32 (nul 2), .int .i32 (nul 3)] 28)) w.heap.size (insA I) 59 := (Blk.new w _ _).alloc _
  have hB : Blk ((w.alloc (.cells (insA I) 59)).alloc (.cells #[.int .i32 (nul 0), .int .i32 (nul 1), .int .i32 (nul 2), .int .i32 (nul 3)] 28)) (w.heap.size + 1) #[.int .i32 (nul 0), .int .i32 (nul 1), .int .i32 (nul 2), .int .i32 (nul 3)] 28 := Blk.at (by simp)
  have D := hide (And.intro hI (And.intro hB (And.intro (hm.ext hX) (And.intro (hr.ext hX) hX))))
  have IR := hide IR32
  have HRW := hide hr
  have hmb := hm.lt
  clear hX hI hB hm hr IR32
  go_enter Tryz.func42, Tryz.ntmps42
  go_upto_region 1 with fail
  generalize hw2 : ((w.alloc (.cells (insA I) 59)).alloc (.cells #[.int .i32 (nul 0), .int .i32 (nul 1), .int .i32 (nul 2), .int .i32 (nul 3)] 28)) = w2 at D
  rw [show ((w.alloc (.cells (insA I) 59)).alloc (.cells #[.int .i32 0, .int .i32 0, .int .i32 0, .int .i32 0] 28)) = w2 from hw2]
  clear hw2
  obtain ⟨f0, f1, f2, f3⟩ := (unhide D).2.1.free4
  obtain ⟨n0, n1, n2, n3⟩ := (unhide D).2.1.vec4
  have hne : ¬ mb = w.heap.size := by omega
  have i0 := ins_at (unhide D).1 0 (v := .int .i64 (I 0)) rfl
  rw [e0] at i0
  have HD := hide (fun wx => done_any (I 1) (I 2) (I 3) (reg R (I 5)) (reg R (I 6)) (reg R (I 7)) wx h3.1 h3.2 (unhide IR (I 5)) (unhide IR (I 6)) (unhide IR (I 7)))
  obtain ⟨b, off, cap, ev, hbl, hall⟩ := (unhide D).2.2.2.1.slc (by have := h5.1; have := h5.2; omega)
  have hbw : b < w.heap.size := by
    obtain ⟨b9, o9, c9, e9, h9, _⟩ := (unhide HRW).slc (by have := h5.1; have := h5.2; omega)
    rw [ev] at e9
    cases e9
    exact h9
  have m13 := mc_at (unhide D).2.2.1 13 (v := vr) rfl
  rw [ev] at m13
  clear HRW
  obtain ⟨k5, ek5, hk5, r50, r51, r52, r53⟩ := hall (I 5) h5.1 h5.2
  have i5 := ins_at (unhide D).1 5 (v := .int .i64 (I 5)) rfl
  rw [ek5] at i5
  obtain ⟨k6, ek6, hk6, r60, r61, r62, r63⟩ := hall (I 6) h6.1 h6.2
  have i6 := ins_at (unhide D).1 6 (v := .int .i64 (I 6)) rfl
  rw [ek6] at i6
  obtain ⟨k7, ek7, hk7, r70, r71, r72, r73⟩ := hall (I 7) h7.1 h7.2
  have i7 := ins_at (unhide D).1 7 (v := .int .i64 (I 7)) rfl
  rw [ek7] at i7
  obtain ⟨y5, hy5⟩ : ∃ y, reg R (I 5) = y := ⟨_, rfl⟩
  rw [hy5] at r50 r51 r52 r53
  obtain ⟨y6, hy6⟩ : ∃ y, reg R (I 6) = y := ⟨_, rfl⟩
  rw [hy6] at r60 r61 r62 r63
  obtain ⟨y7, hy7⟩ : ∃ y, reg R (I 7) = y := ⟨_, rfl⟩
  rw [hy7] at r70 r71 r72 r73
  have hbm : ¬ b = w2.heap.size := by omega
  rw [hy5, hy6, hy7] at HD
  obtain ⟨y, hy⟩ : ∃ y, doI (I 1) (I 2) (I 3) y5 y6 y7 = y := ⟨_, rfl⟩
  rw [hy] at HD
  have HY := hide (And.intro hy5 (And.intro hy6 (And.intro hy7 hy)))
  have i1 := ins_at (unhide D).1 1 (v := .int .i64 (I 1)) rfl
  have i2 := ins_at (unhide D).1 2 (v := .int .i64 (I 2)) rfl
  have i3 := ins_at (unhide D).1 3 (v := .int .i64 (I 3)) rfl
  clear h3 h5 h6 h7 hall ek5 ek6 ek7 ev e0 hy5 hy6 hy7 hy
  generalize R.length = n at *
  go_wp2
  have HCL := hide (fun wx (hg : w2.grownBy wx (some (w.heap.size + 1))) => show wx.cell? ⟨mb, 13, none⟩ = some (.slice (some ⟨b, off, none⟩) n cap) ∧ wx.cell? ⟨w.heap.size, 5, none⟩ = some (.int .i64 (k5 : Int)) ∧ wx.cell? ⟨w.heap.size, 6, none⟩ = some (.int .i64 (k6 : Int)) ∧ wx.cell? ⟨w.heap.size, 7, none⟩ = some (.int .i64 (k7 : Int)) ∧ wx.cell? ⟨w.heap.size, 1, none⟩ = some (.int .i64 (I 1)) ∧ wx.cell? ⟨w.heap.size, 2, none⟩ = some (.int .i64 (I 2)) ∧ wx.cell? ⟨w.heap.size, 3, none⟩ = some (.int .i64 (I 3)) ∧ wx.cell? ⟨b, off + k5 * 4, none⟩ = some (.int .i32 (y5 0)) ∧ wx.cell? ⟨b, off + k5 * 4 + 1, none⟩ = some (.int .i32 (y5 1)) ∧ wx.cell? ⟨b, off + k5 * 4 + 2, none⟩ = some (.int .i32 (y5 2)) ∧ wx.cell? ⟨b, off + k5 * 4 + 3, none⟩ = some (.int .i32 (y5 3)) ∧ wx.cell? ⟨b, off + k6 * 4, none⟩ = some (.int .i32 (y6 0)) ∧ wx.cell? ⟨b, off + k6 * 4 + 1, none⟩ = some (.int .i32 (y6 1)) ∧ wx.cell? ⟨b, off + k6 * 4 + 2, none⟩ = some (.int .i32 (y6 2)) ∧ wx.cell? ⟨b, off + k6 * 4 + 3, none⟩ = some (.int .i32 (y6 3)) ∧ wx.cell? ⟨b, off + k7 * 4, none⟩ = some (.int .i32 (y7 0)) ∧ wx.cell? ⟨b, off + k7 * 4 + 1, none⟩ = some (.int .i32 (y7 1)) ∧ wx.cell? ⟨b, off + k7 * 4 + 2, none⟩ = some (.int .i32 (y7 2)) ∧ wx.cell? ⟨b, off + k7 * 4 + 3, none⟩ = some (.int .i32 (y7 3)) from
    ⟨cell_grown hg m13 (by omega), cell_grown hg i5 (by omega), cell_grown hg i6 (by omega), cell_grown hg i7 (by omega), cell_grown hg i1 (by omega), cell_grown hg i2 (by omega), cell_grown hg i3 (by omega), cell_grown hg r50 (by omega), cell_grown hg r51 (by omega), cell_grown hg r52 (by omega), cell_grown hg r53 (by omega), cell_grown hg r60 (by omega), cell_grown hg r61 (by omega), cell_grown hg r62 (by omega), cell_grown hg r63 (by omega), cell_grown hg r70 (by omega), cell_grown hg r71 (by omega), cell_grown hg r72 (by omega), cell_grown hg r73 (by omega)⟩)
  go_region_held3 (fun wx => wx.cell? ⟨mb, 13, none⟩ = some (.slice (some ⟨b, off, none⟩) n cap) ∧ wx.cell? ⟨w.heap.size, 5, none⟩ = some (.int .i64 (k5 : Int)) ∧ wx.cell? ⟨w.heap.size, 6, none⟩ = some (.int .i64 (k6 : Int)) ∧ wx.cell? ⟨w.heap.size, 7, none⟩ = some (.int .i64 (k7 : Int)) ∧ wx.cell? ⟨w.heap.size, 1, none⟩ = some (.int .i64 (I 1)) ∧ wx.cell? ⟨w.heap.size, 2, none⟩ = some (.int .i64 (I 2)) ∧ wx.cell? ⟨w.heap.size, 3, none⟩ = some (.int .i64 (I 3)) ∧ wx.cell? ⟨b, off + k5 * 4, none⟩ = some (.int .i32 (y5 0)) ∧ wx.cell? ⟨b, off + k5 * 4 + 1, none⟩ = some (.int .i32 (y5 1)) ∧ wx.cell? ⟨b, off + k5 * 4 + 2, none⟩ = some (.int .i32 (y5 2)) ∧ wx.cell? ⟨b, off + k5 * 4 + 3, none⟩ = some (.int .i32 (y5 3)) ∧ wx.cell? ⟨b, off + k6 * 4, none⟩ = some (.int .i32 (y6 0)) ∧ wx.cell? ⟨b, off + k6 * 4 + 1, none⟩ = some (.int .i32 (y6 1)) ∧ wx.cell? ⟨b, off + k6 * 4 + 2, none⟩ = some (.int .i32 (y6 2)) ∧ wx.cell? ⟨b, off + k6 * 4 + 3, none⟩ = some (.int .i32 (y6 3)) ∧ wx.cell? ⟨b, off + k7 * 4, none⟩ = some (.int .i32 (y7 0)) ∧ wx.cell? ⟨b, off + k7 * 4 + 1, none⟩ = some (.int .i32 (y7 1)) ∧ wx.cell? ⟨b, off + k7 * 4 + 2, none⟩ = some (.int .i32 (y7 2)) ∧ wx.cell? ⟨b, off + k7 * 4 + 3, none⟩ = some (.int .i32 (y7 3)))
    (first | with_reducible exact unhide HCL _ (grown_ofExt _ ((Ext.refl _).drew)) | with_reducible exact unhide HCL _ (grown_ofExt _ bx) | with_reducible exact unhide HCL _ (grown_set4 bx))
    (first | (go_at_call 39; refine (unhide HD _).mono ?_; rintro e w5 ⟨rfl, hxx⟩; have bx := ((Ext.refl w2).drew).trans hxx; have R9 := hide (And.intro ((unhide D).2.1.ext bx) ((unhide D).2.2.2.2.trans bx)); clear hxx f0 f1 f2 f3 n0 n1 n2 n3; obtain ⟨n0, n1, n2, n3⟩ := (unhide R9).1.vec4; obtain ⟨f0, f1, f2, f3⟩ := (unhide R9).1.free4))
  go_wp2
  obtain ⟨q0, q1, q2, q3⟩ := lay4 (unhide R9).1 (.int .i32 (y 0)) (.int .i32 (y 1)) (.int .i32 (y 2)) (.int .i32 (y 3))
  refine bodyPost_ret (v := .agg #[.int .i32 ((y) 0), .int .i32 ((y) 1), .int .i32 ((y) 2), .int .i32 ((y) 3)]) (by simp [results, Tryz.results42, go_sem, q0, q1, q2, q3]) rfl ⟨by first | rfl | (rw [(unhide HY).1, (unhide HY).2.1, (unhide HY).2.2.1, (unhide HY).2.2.2]), ?_⟩
  exact ext_set4 (unhide R9).2 (by omega)
end Go.Proofs.YtglfhmlcmffoaaaGreat

/-
  The machine of registers: what an instruction's register becomes (Op 6). Written by mkvg.py.
-/
namespace Go.Proofs.YtglfhmlcmffoaaaGreat
open Go.RowKit
set_option linter.unusedVariables false
set_option linter.unusedSimpArgs false

set_option maxRecDepth 10000 in
set_option maxHeartbeats 4000000 in
theorem value_6 {w : World} {mb : Nat} {E : EnvC} {vr : Value} {O : OutC} {R : List (Nat → Int)} (I : Nat → Int) (e0 : I 0 = 6) (hm : Blk w mb (mcA E vr O) 71) (hr : VRow w vr R) (IR32 : ∀ x i, I32 (reg R x i)) (h3 : 1 ≤ I 3 ∧ I 3 ≤ 4) (hp : plcB I = true) (h5 : 0 ≤ I 5 ∧ I 5 < (R.length : Int)) :
    Calls Tryz.prog 42 #[.pointer (some ⟨mb, 0, none⟩), .agg (insA I)] w fun e w' => e = .returned (.agg #[.int .i32 ((cut (I 3) (fun i => reg R (I 5) (pl (pcs I) i))) 0), .int .i32 ((cut (I 3) (fun i => reg R (I 5) (pl (pcs I) i))) 1), .int .i32 ((cut (I 3) (fun i => reg R (I 5) (pl (pcs I) i))) 2), .int .i32 ((cut (I 3) (fun i => reg R (I 5) (pl (pcs I) i))) 3)]) ∧ Ext w w' := by
  have hX : Ext w ((w.alloc (.cells (insA I) 59)).alloc (.cells #[.int .i32 (nul 0), .int .i32 (nul 1), .int .i32 (nul 2), .int .i32 (nul 3)] 28)) := ((Ext.refl w).alloc _).alloc _
  have hI : Blk ((w.alloc (.cells (insA I) 59)).alloc (.cells #[.int .i32 (nul 0), .int .i32 (nul 1), .int .i32 (nul 2), .int .i32 (nul 3)] 28)) w.heap.size (insA I) 59 := (Blk.new w _ _).alloc _
  have hB : Blk ((w.alloc (.cells (insA I) 59)).alloc (.cells #[.int .i32 (nul 0), .int .i32 (nul 1), .int .i32 (nul 2), .int .i32 (nul 3)] 28)) (w.heap.size + 1) #[.int .i32 (nul 0), .int .i32 (nul 1), .int .i32 (nul 2), .int .i32 (nul 3)] 28 := Blk.at (by simp)
  have D := hide (And.intro hI (And.intro hB (And.intro (hm.ext hX) (And.intro (hr.ext hX) hX))))
  have IR := hide IR32
  have HRW := hide hr
  have hmb := hm.lt
  clear hX hI hB hm hr IR32
  go_enter Tryz.func42, Tryz.ntmps42
  go_upto_region 1 with fail
  generalize hw2 : ((w.alloc (.cells (insA I) 59)).alloc (.cells #[.int .i32 (nul 0), .int .i32 (nul 1), .int .i32 (nul 2), .int .i32 (nul 3)] 28)) = w2 at D
  rw [show ((w.alloc (.cells (insA I) 59)).alloc (.cells #[.int .i32 0, .int .i32 0, .int .i32 0, .int .i32 0] 28)) = w2 from hw2]
  clear hw2
  obtain ⟨f0, f1, f2, f3⟩ := (unhide D).2.1.free4
  obtain ⟨n0, n1, n2, n3⟩ := (unhide D).2.1.vec4
  have hne : ¬ mb = w.heap.size := by omega
  have i0 := ins_at (unhide D).1 0 (v := .int .i64 (I 0)) rfl
  rw [e0] at i0
  have HD := hide (fun wx (hx : Ext w2 wx) => pick_any (reg R (I 5)) (some ⟨w.heap.size, 12, none⟩) 4 (pcs I) wx (pcs_row ((unhide D).1.ext hx) h3) (pcs_good h3 hp))
  have hlen := pcs_len h3
  obtain ⟨b, off, cap, ev, hbl, hall⟩ := (unhide D).2.2.2.1.slc (by have := h5.1; have := h5.2; omega)
  have hbw : b < w.heap.size := by
    obtain ⟨b9, o9, c9, e9, h9, _⟩ := (unhide HRW).slc (by have := h5.1; have := h5.2; omega)
    rw [ev] at e9
    cases e9
    exact h9
  have m13 := mc_at (unhide D).2.2.1 13 (v := vr) rfl
  rw [ev] at m13
  clear HRW
  obtain ⟨k5, ek5, hk5, r50, r51, r52, r53⟩ := hall (I 5) h5.1 h5.2
  have i5 := ins_at (unhide D).1 5 (v := .int .i64 (I 5)) rfl
  rw [ek5] at i5
  obtain ⟨y5, hy5⟩ : ∃ y, reg R (I 5) = y := ⟨_, rfl⟩
  rw [hy5] at r50 r51 r52 r53
  have hbm : ¬ b = w2.heap.size := by omega
  rw [hy5] at HD
  obtain ⟨y, hy⟩ : ∃ y, cut ((pcs I).length : Int) (fun i => y5 (pl (pcs I) i)) = y := ⟨_, rfl⟩
  rw [hy] at HD
  have i3 := ins_at (unhide D).1 3 (v := .int .i64 (I 3)) rfl
  have HY : Hid ((cut (I 3) (fun i => reg R (I 5) (pl (pcs I) i))) = y) := by
    rw [Hid, ← hy, hy5]
    rw [hlen, show ((I 3).toNat : Int) = I 3 by omega]
  obtain ⟨m, em⟩ : ∃ m : Nat, I 3 = (m : Int) := ⟨(I 3).toNat, by omega⟩
  rw [show (pcs I).length = m by omega] at HD
  rw [em] at i3
  have hm4 : m ≤ 4 := by omega
  have hm4i : (m : Int) ≤ 4 := by omega
  have hm0 : (0 : Int) ≤ (m : Int) := by omega
  clear h3 hp h5 hall ek5 ev e0 hy hlen em hy5
  generalize R.length = n at *
  go_upto_region 11 with fail
  go_cut [5, 6] (fun p z wc => ∃ bc, p = .pointer (some ⟨bc, 0, none⟩) ∧ z = .int .i64 0 ∧ Hid (Ext w2 wc ∧ Blk wc bc #[.int .i32 (y 0), .int .i32 (y 1), .int .i32 (y 2), .int .i32 (y 3)] 28 ∧ w2.heap.size ≤ bc))
  case first =>
    have HCL := hide (fun wx (hx : Ext w2 wx) => show wx.cell? ⟨mb, 13, none⟩ = some (.slice (some ⟨b, off, none⟩) n cap) ∧ wx.cell? ⟨w.heap.size, 5, none⟩ = some (.int .i64 (k5 : Int)) ∧ wx.cell? ⟨w.heap.size, 3, none⟩ = some (.int .i64 (m : Int)) ∧ wx.cell? ⟨b, off + k5 * 4, none⟩ = some (.int .i32 (y5 0)) ∧ wx.cell? ⟨b, off + k5 * 4 + 1, none⟩ = some (.int .i32 (y5 1)) ∧ wx.cell? ⟨b, off + k5 * 4 + 2, none⟩ = some (.int .i32 (y5 2)) ∧ wx.cell? ⟨b, off + k5 * 4 + 3, none⟩ = some (.int .i32 (y5 3)) from
      ⟨(hx.cell (World.block_lt_of_cell? _ _ m13)).trans m13, (hx.cell (World.block_lt_of_cell? _ _ i5)).trans i5, (hx.cell (World.block_lt_of_cell? _ _ i3)).trans i3, (hx.cell (World.block_lt_of_cell? _ _ r50)).trans r50, (hx.cell (World.block_lt_of_cell? _ _ r51)).trans r51, (hx.cell (World.block_lt_of_cell? _ _ r52)).trans r52, (hx.cell (World.block_lt_of_cell? _ _ r53)).trans r53⟩)
    have HC1 := hide (unhide HD _ (Ext.refl w2).drew)
    have HC2 := hide (unhide HD _ (((Ext.refl w2).alloc (.cells #[.int .i32 0, .int .i32 0, .int .i32 0, .int .i32 0] 28)).drew))
    go_region_held3 (fun wx => wx.cell? ⟨mb, 13, none⟩ = some (.slice (some ⟨b, off, none⟩) n cap) ∧ wx.cell? ⟨w.heap.size, 5, none⟩ = some (.int .i64 (k5 : Int)) ∧ wx.cell? ⟨w.heap.size, 3, none⟩ = some (.int .i64 (m : Int)) ∧ wx.cell? ⟨b, off + k5 * 4, none⟩ = some (.int .i32 (y5 0)) ∧ wx.cell? ⟨b, off + k5 * 4 + 1, none⟩ = some (.int .i32 (y5 1)) ∧ wx.cell? ⟨b, off + k5 * 4 + 2, none⟩ = some (.int .i32 (y5 2)) ∧ wx.cell? ⟨b, off + k5 * 4 + 3, none⟩ = some (.int .i32 (y5 3)))
      (first | with_reducible exact unhide HCL _ ((Ext.refl _).drew) | with_reducible exact unhide HCL _ (((Ext.refl _).alloc _).drew) | with_reducible exact unhide HCL _ bx | with_reducible exact unhide HCL _ (bx.alloc _) | with_reducible exact unhide HCL _ (ext_set4 (bx.alloc _) bx.size) | with_reducible exact unhide HCL _ (ext_set4 bx (Nat.le_refl _)))
      (first
        | (go_at_call 70; with_reducible refine (unhide HC1).mono ?_; rintro e w5 ⟨rfl, hx5⟩; have bx : Ext w2 w5 := ((Ext.refl w2).drew).trans hx5; clear hx5)
        | (go_at_call 70; with_reducible refine (unhide HC2).mono ?_; rintro e w5 ⟨rfl, hx5⟩; have bx : Ext w2 w5 := (((Ext.refl w2).alloc (.cells #[.int .i32 0, .int .i32 0, .int .i32 0, .int .i32 0] 28)).drew).trans hx5; have bb := hide (blk_nul (((Blk.new w2 #[.int .i32 0, .int .i32 0, .int .i32 0, .int .i32 0] 28).ext ((Ext.refl _).drew)).ext hx5)); obtain ⟨c0, c1, c2, c3⟩ := (unhide bb).vec4; obtain ⟨l0, l1, l2, l3⟩ := (unhide bb).free4; clear hx5))
    · go_wp2
      go_meet
      exact ⟨w5.heap.size, rfl, rfl, bx.alloc _, Blk.new _ _ _, bx.size⟩
    · go_wp2
      go_meet
      exact ⟨w2.heap.size, rfl, rfl, ext_set4 bx (Nat.le_refl _), (unhide bb).put4 (.int .i32 (y 0)) (.int .i32 (y 1)) (.int .i32 (y 2)) (.int .i32 (y 3)), Nat.le_refl _⟩
  case rest =>
  obtain ⟨bc, rfl, rfl, hcut⟩ := hcut
  rename_i wc
  have hx := (unhide hcut).1
  have hbc := (unhide hcut).2.2
  have hws : w.heap.size + 2 ≤ w2.heap.size := by have := (unhide D).2.1.lt; omega
  have R9 := hide (And.intro ((unhide D).2.1.ext hx) ((unhide D).2.2.2.2.trans hx))
  have C := hide (unhide hcut).2.1
  clear D f0 f1 f2 f3 n0 n1 n2 n3 hcut hx HD m13 i5 i3 r50 r51 r52 r53
  obtain ⟨n0, n1, n2, n3⟩ := (unhide R9).1.vec4
  obtain ⟨f0, f1, f2, f3⟩ := (unhide R9).1.free4
  obtain ⟨c0, c1, c2, c3⟩ := (unhide C).vec4
  go_wp2
  obtain ⟨q0, q1, q2, q3⟩ := lay4 (unhide R9).1 (.int .i32 (y 0)) (.int .i32 (y 1)) (.int .i32 (y 2)) (.int .i32 (y 3))
  refine bodyPost_ret (v := .agg #[.int .i32 ((y) 0), .int .i32 ((y) 1), .int .i32 ((y) 2), .int .i32 ((y) 3)]) (by simp [results, Tryz.results42, go_sem, q0, q1, q2, q3]) rfl ⟨by first | rfl | (rw [unhide HY]), ?_⟩
  exact ext_set4 (unhide R9).2 (by omega)
end Go.Proofs.YtglfhmlcmffoaaaGreat

/-
  The machine of registers: what an instruction's register becomes (Op 7). Written by mkvg.py.
-/
namespace Go.Proofs.YtglfhmlcmffoaaaGreat
open Go.RowKit
set_option linter.unusedVariables false
set_option linter.unusedSimpArgs false

set_option maxRecDepth 10000 in
set_option maxHeartbeats 4000000 in
theorem value_7 {w : World} {mb : Nat} {E : EnvC} {vr : Value} {O : OutC} {R : List (Nat → Int)} (I : Nat → Int) (e0 : I 0 = 7) (hm : Blk w mb (mcA E vr O) 71) (hr : VRow w vr R) (IR32 : ∀ x i, I32 (reg R x i)) (h3 : 1 ≤ I 3 ∧ I 3 ≤ 4) (hp : plcB I = true) (ht : twB (pcs I) = false) (h4 : 0 ≤ I 4 ∧ I 4 < (R.length : Int)) (h5 : 0 ≤ I 5 ∧ I 5 < (R.length : Int)) :
    Calls Tryz.prog 42 #[.pointer (some ⟨mb, 0, none⟩), .agg (insA I)] w fun e w' => e = .returned (.agg #[.int .i32 ((layK (reg R (I 4)) (reg R (I 5)) (pcs I) (pcs I).length) 0), .int .i32 ((layK (reg R (I 4)) (reg R (I 5)) (pcs I) (pcs I).length) 1), .int .i32 ((layK (reg R (I 4)) (reg R (I 5)) (pcs I) (pcs I).length) 2), .int .i32 ((layK (reg R (I 4)) (reg R (I 5)) (pcs I) (pcs I).length) 3)]) ∧ Ext w w' := by
  have hX : Ext w ((w.alloc (.cells (insA I) 59)).alloc (.cells #[.int .i32 (nul 0), .int .i32 (nul 1), .int .i32 (nul 2), .int .i32 (nul 3)] 28)) := ((Ext.refl w).alloc _).alloc _
  have hI : Blk ((w.alloc (.cells (insA I) 59)).alloc (.cells #[.int .i32 (nul 0), .int .i32 (nul 1), .int .i32 (nul 2), .int .i32 (nul 3)] 28)) w.heap.size (insA I) 59 := (Blk.new w _ _).alloc _
  have hB : Blk ((w.alloc (.cells (insA I) 59)).alloc (.cells #[.int .i32 (nul 0), .int .i32 (nul 1), .int .i32 (nul 2), .int .i32 (nul 3)] 28)) (w.heap.size + 1) #[.int .i32 (nul 0), .int .i32 (nul 1), .int .i32 (nul 2), .int .i32 (nul 3)] 28 := Blk.at (by simp)
  have D := hide (And.intro hI (And.intro hB (And.intro (hm.ext hX) (And.intro (hr.ext hX) hX))))
  have IR := hide IR32
  have HRW := hide hr
  have hmb := hm.lt
  clear hX hI hB hm hr IR32
  go_enter Tryz.func42, Tryz.ntmps42
  go_upto_region 1 with fail
  generalize hw2 : ((w.alloc (.cells (insA I) 59)).alloc (.cells #[.int .i32 (nul 0), .int .i32 (nul 1), .int .i32 (nul 2), .int .i32 (nul 3)] 28)) = w2 at D
  rw [show ((w.alloc (.cells (insA I) 59)).alloc (.cells #[.int .i32 0, .int .i32 0, .int .i32 0, .int .i32 0] 28)) = w2 from hw2]
  clear hw2
  obtain ⟨f0, f1, f2, f3⟩ := (unhide D).2.1.free4
  obtain ⟨n0, n1, n2, n3⟩ := (unhide D).2.1.vec4
  have hne : ¬ mb = w.heap.size := by omega
  have i0 := ins_at (unhide D).1 0 (v := .int .i64 (I 0)) rfl
  rw [e0] at i0
  have HD := hide (fun wx (hx : Ext w2 wx) => putV_any (reg R (I 4)) (reg R (I 5)) (some ⟨w.heap.size, 12, none⟩) 4 (pcs I) wx (pcs_row ((unhide D).1.ext hx) h3) (pcs_good h3 hp) (pcs_once ht))
  have hlen := pcs_len h3
  obtain ⟨b, off, cap, ev, hbl, hall⟩ := (unhide D).2.2.2.1.slc (by have := h4.1; have := h4.2; omega)
  have hbw : b < w.heap.size := by
    obtain ⟨b9, o9, c9, e9, h9, _⟩ := (unhide HRW).slc (by have := h4.1; have := h4.2; omega)
    rw [ev] at e9
    cases e9
    exact h9
  have m13 := mc_at (unhide D).2.2.1 13 (v := vr) rfl
  rw [ev] at m13
  clear HRW
  obtain ⟨k4, ek4, hk4, r40, r41, r42, r43⟩ := hall (I 4) h4.1 h4.2
  have i4 := ins_at (unhide D).1 4 (v := .int .i64 (I 4)) rfl
  rw [ek4] at i4
  obtain ⟨k5, ek5, hk5, r50, r51, r52, r53⟩ := hall (I 5) h5.1 h5.2
  have i5 := ins_at (unhide D).1 5 (v := .int .i64 (I 5)) rfl
  rw [ek5] at i5
  obtain ⟨y4, hy4⟩ : ∃ y, reg R (I 4) = y := ⟨_, rfl⟩
  rw [hy4] at r40 r41 r42 r43
  obtain ⟨y5, hy5⟩ : ∃ y, reg R (I 5) = y := ⟨_, rfl⟩
  rw [hy5] at r50 r51 r52 r53
  have hbm : ¬ b = w2.heap.size := by omega
  rw [hy4, hy5] at HD
  obtain ⟨y, hy⟩ : ∃ y, layK y4 y5 (pcs I) (pcs I).length = y := ⟨_, rfl⟩
  rw [hy] at HD
  have i3 := ins_at (unhide D).1 3 (v := .int .i64 (I 3)) rfl
  have HY : Hid ((layK (reg R (I 4)) (reg R (I 5)) (pcs I) (pcs I).length) = y) := by
    rw [Hid, ← hy, hy4, hy5]
  obtain ⟨m, em⟩ : ∃ m : Nat, I 3 = (m : Int) := ⟨(I 3).toNat, by omega⟩
  rw [show (pcs I).length = m by omega] at HD
  rw [em] at i3
  have hm4 : m ≤ 4 := by omega
  have hm4i : (m : Int) ≤ 4 := by omega
  have hm0 : (0 : Int) ≤ (m : Int) := by omega
  clear h3 hp ht h4 h5 hall ek4 ek5 ev e0 hy hlen em hy4 hy5
  generalize R.length = n at *
  go_upto_region 14 with fail
  go_cut [7, 8] (fun p z wc => ∃ bc, p = .pointer (some ⟨bc, 0, none⟩) ∧ z = .int .i64 0 ∧ Hid (Ext w2 wc ∧ Blk wc bc #[.int .i32 (y 0), .int .i32 (y 1), .int .i32 (y 2), .int .i32 (y 3)] 28 ∧ w2.heap.size ≤ bc))
  case first =>
    have HCL := hide (fun wx (hx : Ext w2 wx) => show wx.cell? ⟨mb, 13, none⟩ = some (.slice (some ⟨b, off, none⟩) n cap) ∧ wx.cell? ⟨w.heap.size, 4, none⟩ = some (.int .i64 (k4 : Int)) ∧ wx.cell? ⟨w.heap.size, 5, none⟩ = some (.int .i64 (k5 : Int)) ∧ wx.cell? ⟨w.heap.size, 3, none⟩ = some (.int .i64 (m : Int)) ∧ wx.cell? ⟨b, off + k4 * 4, none⟩ = some (.int .i32 (y4 0)) ∧ wx.cell? ⟨b, off + k4 * 4 + 1, none⟩ = some (.int .i32 (y4 1)) ∧ wx.cell? ⟨b, off + k4 * 4 + 2, none⟩ = some (.int .i32 (y4 2)) ∧ wx.cell? ⟨b, off + k4 * 4 + 3, none⟩ = some (.int .i32 (y4 3)) ∧ wx.cell? ⟨b, off + k5 * 4, none⟩ = some (.int .i32 (y5 0)) ∧ wx.cell? ⟨b, off + k5 * 4 + 1, none⟩ = some (.int .i32 (y5 1)) ∧ wx.cell? ⟨b, off + k5 * 4 + 2, none⟩ = some (.int .i32 (y5 2)) ∧ wx.cell? ⟨b, off + k5 * 4 + 3, none⟩ = some (.int .i32 (y5 3)) from
      ⟨(hx.cell (World.block_lt_of_cell? _ _ m13)).trans m13, (hx.cell (World.block_lt_of_cell? _ _ i4)).trans i4, (hx.cell (World.block_lt_of_cell? _ _ i5)).trans i5, (hx.cell (World.block_lt_of_cell? _ _ i3)).trans i3, (hx.cell (World.block_lt_of_cell? _ _ r40)).trans r40, (hx.cell (World.block_lt_of_cell? _ _ r41)).trans r41, (hx.cell (World.block_lt_of_cell? _ _ r42)).trans r42, (hx.cell (World.block_lt_of_cell? _ _ r43)).trans r43, (hx.cell (World.block_lt_of_cell? _ _ r50)).trans r50, (hx.cell (World.block_lt_of_cell? _ _ r51)).trans r51, (hx.cell (World.block_lt_of_cell? _ _ r52)).trans r52, (hx.cell (World.block_lt_of_cell? _ _ r53)).trans r53⟩)
    have HC1 := hide (unhide HD _ (Ext.refl w2).drew)
    have HC2 := hide (unhide HD _ (((Ext.refl w2).alloc (.cells #[.int .i32 0, .int .i32 0, .int .i32 0, .int .i32 0] 28)).drew))
    go_region_held3 (fun wx => wx.cell? ⟨mb, 13, none⟩ = some (.slice (some ⟨b, off, none⟩) n cap) ∧ wx.cell? ⟨w.heap.size, 4, none⟩ = some (.int .i64 (k4 : Int)) ∧ wx.cell? ⟨w.heap.size, 5, none⟩ = some (.int .i64 (k5 : Int)) ∧ wx.cell? ⟨w.heap.size, 3, none⟩ = some (.int .i64 (m : Int)) ∧ wx.cell? ⟨b, off + k4 * 4, none⟩ = some (.int .i32 (y4 0)) ∧ wx.cell? ⟨b, off + k4 * 4 + 1, none⟩ = some (.int .i32 (y4 1)) ∧ wx.cell? ⟨b, off + k4 * 4 + 2, none⟩ = some (.int .i32 (y4 2)) ∧ wx.cell? ⟨b, off + k4 * 4 + 3, none⟩ = some (.int .i32 (y4 3)) ∧ wx.cell? ⟨b, off + k5 * 4, none⟩ = some (.int .i32 (y5 0)) ∧ wx.cell? ⟨b, off + k5 * 4 + 1, none⟩ = some (.int .i32 (y5 1)) ∧ wx.cell? ⟨b, off + k5 * 4 + 2, none⟩ = some (.int .i32 (y5 2)) ∧ wx.cell? ⟨b, off + k5 * 4 + 3, none⟩ = some (.int .i32 (y5 3)))
      (first | with_reducible exact unhide HCL _ ((Ext.refl _).drew) | with_reducible exact unhide HCL _ (((Ext.refl _).alloc _).drew) | with_reducible exact unhide HCL _ bx | with_reducible exact unhide HCL _ (bx.alloc _) | with_reducible exact unhide HCL _ (ext_set4 (bx.alloc _) bx.size) | with_reducible exact unhide HCL _ (ext_set4 bx (Nat.le_refl _)))
      (first
        | (go_at_call 71; with_reducible refine (unhide HC1).mono ?_; rintro e w5 ⟨rfl, hx5⟩; have bx : Ext w2 w5 := ((Ext.refl w2).drew).trans hx5; clear hx5)
        | (go_at_call 71; with_reducible refine (unhide HC2).mono ?_; rintro e w5 ⟨rfl, hx5⟩; have bx : Ext w2 w5 := (((Ext.refl w2).alloc (.cells #[.int .i32 0, .int .i32 0, .int .i32 0, .int .i32 0] 28)).drew).trans hx5; have bb := hide (blk_nul (((Blk.new w2 #[.int .i32 0, .int .i32 0, .int .i32 0, .int .i32 0] 28).ext ((Ext.refl _).drew)).ext hx5)); obtain ⟨c0, c1, c2, c3⟩ := (unhide bb).vec4; obtain ⟨l0, l1, l2, l3⟩ := (unhide bb).free4; clear hx5))
    · go_wp2
      go_meet
      exact ⟨w5.heap.size, rfl, rfl, bx.alloc _, Blk.new _ _ _, bx.size⟩
    · go_wp2
      go_meet
      exact ⟨w2.heap.size, rfl, rfl, ext_set4 bx (Nat.le_refl _), (unhide bb).put4 (.int .i32 (y 0)) (.int .i32 (y 1)) (.int .i32 (y 2)) (.int .i32 (y 3)), Nat.le_refl _⟩
  case rest =>
  obtain ⟨bc, rfl, rfl, hcut⟩ := hcut
  rename_i wc
  have hx := (unhide hcut).1
  have hbc := (unhide hcut).2.2
  have hws : w.heap.size + 2 ≤ w2.heap.size := by have := (unhide D).2.1.lt; omega
  have R9 := hide (And.intro ((unhide D).2.1.ext hx) ((unhide D).2.2.2.2.trans hx))
  have C := hide (unhide hcut).2.1
  clear D f0 f1 f2 f3 n0 n1 n2 n3 hcut hx HD m13 i4 i5 i3 r40 r41 r42 r43 r50 r51 r52 r53
  obtain ⟨n0, n1, n2, n3⟩ := (unhide R9).1.vec4
  obtain ⟨f0, f1, f2, f3⟩ := (unhide R9).1.free4
  obtain ⟨c0, c1, c2, c3⟩ := (unhide C).vec4
  go_wp2
  obtain ⟨q0, q1, q2, q3⟩ := lay4 (unhide R9).1 (.int .i32 (y 0)) (.int .i32 (y 1)) (.int .i32 (y 2)) (.int .i32 (y 3))
  refine bodyPost_ret (v := .agg #[.int .i32 ((y) 0), .int .i32 ((y) 1), .int .i32 ((y) 2), .int .i32 ((y) 3)]) (by simp [results, Tryz.results42, go_sem, q0, q1, q2, q3]) rfl ⟨by first | rfl | (rw [unhide HY]), ?_⟩
  exact ext_set4 (unhide R9).2 (by omega)
end Go.Proofs.YtglfhmlcmffoaaaGreat
