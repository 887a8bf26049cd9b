/- Several texts in one. -/
import Derived.Test.YtgmahpkhdnabjaaGreatVQJ
/-
  The machine of registers: what an instruction's register becomes (Op 1). Written by mkvg.py.
-/
namespace Go.Proofs.YtgmahpkhdnabjaaGreat
open Go.RowKit
set_option linter.unusedVariables false
set_option linter.unusedSimpArgs false

set_option maxRecDepth 10000 in
set_option maxHeartbeats 4000000 in
theorem value_1 {w : World} {mb : Nat} {E : EnvC} {vr : Value} {O : OutC} {R : List (Nat → Int)} (I : Nat → Int) (e0 : I 0 = 1) (hm : Blk w mb (mcA E vr O) 75) (hr : VRow w vr R) (IR32 : ∀ x i, I32 (reg R x i))  :
    Calls Tryz.prog 49 #[.pointer (some ⟨mb, 0, none⟩), .agg (insA I)] w fun e w' => e = .returned (.agg #[.int .i32 ((fun k => I (8 + k)) 0), .int .i32 ((fun k => I (8 + k)) 1), .int .i32 ((fun k => I (8 + k)) 2), .int .i32 ((fun k => I (8 + k)) 3)]) ∧ Ext w w' := by
  have hX : Ext w ((w.alloc (.cells (insA I) 64)).alloc (.cells #[.int .i32 (nul 0), .int .i32 (nul 1), .int .i32 (nul 2), .int .i32 (nul 3)] 28)) := ((Ext.refl w).alloc _).alloc _
  have hI : Blk ((w.alloc (.cells (insA I) 64)).alloc (.cells #[.int .i32 (nul 0), .int .i32 (nul 1), .int .i32 (nul 2), .int .i32 (nul 3)] 28)) w.heap.size (insA I) 64 := (Blk.new w _ _).alloc _
  have hB : Blk ((w.alloc (.cells (insA I) 64)).alloc (.cells #[.int .i32 (nul 0), .int .i32 (nul 1), .int .i32 (nul 2), .int .i32 (nul 3)] 28)) (w.heap.size + 1) #[.int .i32 (nul 0), .int .i32 (nul 1), .int .i32 (nul 2), .int .i32 (nul 3)] 28 := Blk.at (by simp)
  have D := hide (And.intro hI (And.intro hB (And.intro (hm.ext hX) (And.intro (hr.ext hX) hX))))
  have IR := hide IR32
  have HRW := hide hr
  have hmb := hm.lt
  clear hX hI hB hm hr IR32
  go_enter Tryz.func49, Tryz.ntmps49
  go_upto_region 1 with fail
  generalize hw2 : ((w.alloc (.cells (insA I) 64)).alloc (.cells #[.int .i32 (nul 0), .int .i32 (nul 1), .int .i32 (nul 2), .int .i32 (nul 3)] 28)) = w2 at D
  rw [show ((w.alloc (.cells (insA I) 64)).alloc (.cells #[.int .i32 0, .int .i32 0, .int .i32 0, .int .i32 0] 28)) = w2 from hw2]
  clear hw2
  obtain ⟨f0, f1, f2, f3⟩ := (unhide D).2.1.free4
  obtain ⟨n0, n1, n2, n3⟩ := (unhide D).2.1.vec4
  have hne : ¬ mb = w.heap.size := by omega
  have i0 := ins_at (unhide D).1 0 (v := .int .i64 (I 0)) rfl
  rw [e0] at i0
  have i8 := ins_at (unhide D).1 8 (v := .int .i32 (I 8)) rfl
  have i9 := ins_at (unhide D).1 9 (v := .int .i32 (I 9)) rfl
  have i10 := ins_at (unhide D).1 10 (v := .int .i32 (I 10)) rfl
  have i11 := ins_at (unhide D).1 11 (v := .int .i32 (I 11)) rfl
  clear e0
  go_wp2
  obtain ⟨q0, q1, q2, q3⟩ := lay4 (unhide D).2.1 (.int .i32 ((fun k => I (8 + k)) 0)) (.int .i32 ((fun k => I (8 + k)) 1)) (.int .i32 ((fun k => I (8 + k)) 2)) (.int .i32 ((fun k => I (8 + k)) 3))
  refine bodyPost_ret (v := .agg #[.int .i32 (((fun k => I (8 + k))) 0), .int .i32 (((fun k => I (8 + k))) 1), .int .i32 (((fun k => I (8 + k))) 2), .int .i32 (((fun k => I (8 + k))) 3)]) (by simp [results, Tryz.results49, go_sem, q0, q1, q2, q3]) rfl ⟨by first | rfl | (rfl), ?_⟩
  exact ext_set4 (unhide D).2.2.2.2 (by omega)
end Go.Proofs.YtgmahpkhdnabjaaGreat

/-
  The machine of registers: what an instruction's register becomes (Op 2). Written by mkvg.py.
-/
namespace Go.Proofs.YtgmahpkhdnabjaaGreat
open Go.RowKit
set_option linter.unusedVariables false
set_option linter.unusedSimpArgs false

set_option maxRecDepth 10000 in
set_option maxHeartbeats 4000000 in
theorem value_2 {w : World} {mb : Nat} {E : EnvC} {vr : Value} {O : OutC} {R : List (Nat → Int)} (I : Nat → Int) (e0 : I 0 = 2) (hm : Blk w mb (mcA E vr O) 75) (hr : VRow w vr R) (IR32 : ∀ x i, I32 (reg R x i)) (h5 : 0 ≤ I 5 ∧ I 5 < (R.length : Int)) :
    Calls Tryz.prog 49 #[.pointer (some ⟨mb, 0, none⟩), .agg (insA I)] w fun e w' => e = .returned (.agg #[.int .i32 (reg R (I 5) 0), .int .i32 (reg R (I 5) 1), .int .i32 (reg R (I 5) 2), .int .i32 (reg R (I 5) 3)]) ∧ Ext w w' := by
  have hX : Ext w ((w.alloc (.cells (insA I) 64)).alloc (.cells #[.int .i32 (nul 0), .int .i32 (nul 1), .int .i32 (nul 2), .int .i32 (nul 3)] 28)) := ((Ext.refl w).alloc _).alloc _
  have hI : Blk ((w.alloc (.cells (insA I) 64)).alloc (.cells #[.int .i32 (nul 0), .int .i32 (nul 1), .int .i32 (nul 2), .int .i32 (nul 3)] 28)) w.heap.size (insA I) 64 := (Blk.new w _ _).alloc _
  have hB : Blk ((w.alloc (.cells (insA I) 64)).alloc (.cells #[.int .i32 (nul 0), .int .i32 (nul 1), .int .i32 (nul 2), .int .i32 (nul 3)] 28)) (w.heap.size + 1) #[.int .i32 (nul 0), .int .i32 (nul 1), .int .i32 (nul 2), .int .i32 (nul 3)] 28 := Blk.at (by simp)
  have D := hide (And.intro hI (And.intro hB (And.intro (hm.ext hX) (And.intro (hr.ext hX) hX))))
  have IR := hide IR32
  have HRW := hide hr
  have hmb := hm.lt
  clear hX hI hB hm hr IR32
  go_enter Tryz.func49, Tryz.ntmps49
  go_upto_region 1 with fail
  generalize hw2 : ((w.alloc (.cells (insA I) 64)).alloc (.cells #[.int .i32 (nul 0), .int .i32 (nul 1), .int .i32 (nul 2), .int .i32 (nul 3)] 28)) = w2 at D
  rw [show ((w.alloc (.cells (insA I) 64)).alloc (.cells #[.int .i32 0, .int .i32 0, .int .i32 0, .int .i32 0] 28)) = w2 from hw2]
  clear hw2
  obtain ⟨f0, f1, f2, f3⟩ := (unhide D).2.1.free4
  obtain ⟨n0, n1, n2, n3⟩ := (unhide D).2.1.vec4
  have hne : ¬ mb = w.heap.size := by omega
  have i0 := ins_at (unhide D).1 0 (v := .int .i64 (I 0)) rfl
  rw [e0] at i0
  obtain ⟨b, off, cap, ev, hbl, hall⟩ := (unhide D).2.2.2.1.slc (by have := h5.1; have := h5.2; omega)
  have hbw : b < w.heap.size := by
    obtain ⟨b9, o9, c9, e9, h9, _⟩ := (unhide HRW).slc (by have := h5.1; have := h5.2; omega)
    rw [ev] at e9
    cases e9
    exact h9
  have m13 := mc_at (unhide D).2.2.1 13 (v := vr) rfl
  rw [ev] at m13
  clear HRW
  obtain ⟨k5, ek5, hk5, r50, r51, r52, r53⟩ := hall (I 5) h5.1 h5.2
  have i5 := ins_at (unhide D).1 5 (v := .int .i64 (I 5)) rfl
  rw [ek5] at i5
  obtain ⟨y5, hy5⟩ : ∃ y, reg R (I 5) = y := ⟨_, rfl⟩
  rw [hy5] at r50 r51 r52 r53
  have hbm : ¬ b = w2.heap.size := by omega
  clear h5 hall ek5 ev e0
  generalize R.length = n at *
  go_wp2
  go_region_with (fail)
  all_goals
    go_wp2
    obtain ⟨q0, q1, q2, q3⟩ := lay4 (unhide D).2.1 (.int .i32 (y5 0)) (.int .i32 (y5 1)) (.int .i32 (y5 2)) (.int .i32 (y5 3))
    refine bodyPost_ret (v := .agg #[.int .i32 ((y5) 0), .int .i32 ((y5) 1), .int .i32 ((y5) 2), .int .i32 ((y5) 3)]) (by simp [results, Tryz.results49, go_sem, q0, q1, q2, q3]) rfl ⟨by first | rfl | (rw [hy5]), ?_⟩
    exact ext_set4 ((unhide D).2.2.2.2.drew) (by omega)
end Go.Proofs.YtgmahpkhdnabjaaGreat

/-
  The machine of registers: what an instruction's register becomes (Op 3). Written by mkvg.py.
-/
namespace Go.Proofs.YtgmahpkhdnabjaaGreat
open Go.RowKit
set_option linter.unusedVariables false
set_option linter.unusedSimpArgs false

set_option maxRecDepth 10000 in
set_option maxHeartbeats 4000000 in
theorem value_3 {w : World} {mb : Nat} {E : EnvC} {vr : Value} {O : OutC} {R : List (Nat → Int)} {S : Sur} (I : Nat → Int) (e0 : I 0 = 3) (hm : Blk w mb (mcA E vr O) 75) (hr : VRow w vr R) (IR32 : ∀ x i, I32 (reg R x i)) (hs : SurAt w E S) (g1 : I 1 = 1 → 0 ≤ I 5 ∧ I 5 < (S.att.length : Int)) (g2 : I 1 = 2 → 0 ≤ I 5 ∧ I 5 < (S.uni.length : Int)) (g3 : I 1 = 3 → 0 ≤ I 5 ∧ I 5 < (S.vry.length : Int)) :
    Calls Tryz.prog 49 #[.pointer (some ⟨mb, 0, none⟩), .agg (insA I)] w fun e w' => e = .returned (.agg #[.int .i32 (loadP S I 0), .int .i32 (loadP S I 1), .int .i32 (loadP S I 2), .int .i32 (loadP S I 3)]) ∧ Ext w w' := by
  have hX : Ext w ((w.alloc (.cells (insA I) 64)).alloc (.cells #[.int .i32 (nul 0), .int .i32 (nul 1), .int .i32 (nul 2), .int .i32 (nul 3)] 28)) := ((Ext.refl w).alloc _).alloc _
  have hI : Blk ((w.alloc (.cells (insA I) 64)).alloc (.cells #[.int .i32 (nul 0), .int .i32 (nul 1), .int .i32 (nul 2), .int .i32 (nul 3)] 28)) w.heap.size (insA I) 64 := (Blk.new w _ _).alloc _
  have hB : Blk ((w.alloc (.cells (insA I) 64)).alloc (.cells #[.int .i32 (nul 0), .int .i32 (nul 1), .int .i32 (nul 2), .int .i32 (nul 3)] 28)) (w.heap.size + 1) #[.int .i32 (nul 0), .int .i32 (nul 1), .int .i32 (nul 2), .int .i32 (nul 3)] 28 := Blk.at (by simp)
  have D := hide (And.intro hI (And.intro hB (And.intro (hm.ext hX) (And.intro (hr.ext hX) hX))))
  have IR := hide IR32
  have HRW := hide hr
  have hmb := hm.lt
  have HL := hide (fun wx (hx : Ext w wx) => loadM_any I (hm.ext hx) (hs.ext hx) g1 g2 g3)
  clear hs g1 g2 g3
  clear hX hI hB hm hr IR32
  go_enter Tryz.func49, Tryz.ntmps49
  go_upto_region 1 with fail
  generalize hw2 : ((w.alloc (.cells (insA I) 64)).alloc (.cells #[.int .i32 (nul 0), .int .i32 (nul 1), .int .i32 (nul 2), .int .i32 (nul 3)] 28)) = w2 at D
  rw [show ((w.alloc (.cells (insA I) 64)).alloc (.cells #[.int .i32 0, .int .i32 0, .int .i32 0, .int .i32 0] 28)) = w2 from hw2]
  clear hw2
  obtain ⟨f0, f1, f2, f3⟩ := (unhide D).2.1.free4
  obtain ⟨n0, n1, n2, n3⟩ := (unhide D).2.1.vec4
  have hne : ¬ mb = w.heap.size := by omega
  have i0 := ins_at (unhide D).1 0 (v := .int .i64 (I 0)) rfl
  rw [e0] at i0
  have HL2 := hide (unhide HL w2 (unhide D).2.2.2.2)
  have HI := hide (unhide D).1
  clear HL e0
  go_wp2_with (first
    | refine wpList_load_row rfl 64 (.tmp 3) rfl w.heap.size rfl 64 (insA I) (0, 0) _ (unhide HI) Tryz.underlying64 rfl sizeI16 ?_
    | (go_at_call 77; refine (unhide HL2).mono ?_; rintro e w5 ⟨rfl, hx⟩; have R9 := hide (And.intro ((unhide D).2.1.ext hx) ((unhide D).2.2.2.2.trans hx)); clear hx D f0 f1 f2 f3 n0 n1 n2 n3; obtain ⟨n0, n1, n2, n3⟩ := (unhide R9).1.vec4; obtain ⟨f0, f1, f2, f3⟩ := (unhide R9).1.free4))
  obtain ⟨q0, q1, q2, q3⟩ := lay4 (unhide R9).1 (.int .i32 (loadP S I 0)) (.int .i32 (loadP S I 1)) (.int .i32 (loadP S I 2)) (.int .i32 (loadP S I 3))
  refine bodyPost_ret (v := .agg #[.int .i32 ((loadP S I) 0), .int .i32 ((loadP S I) 1), .int .i32 ((loadP S I) 2), .int .i32 ((loadP S I) 3)]) (by simp [results, Tryz.results49, go_sem, q0, q1, q2, q3]) rfl ⟨by first | rfl | (rfl), ?_⟩
  exact ext_set4 (unhide R9).2 (by omega)
end Go.Proofs.YtgmahpkhdnabjaaGreat
