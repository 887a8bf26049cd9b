/-
  The document's Right, for some of the Ops.
-/
import Derived.Test.YtfoffnbkfnbglaaCRp
import Derived.Test.YtfoffnbkfnbglaaCY
import Derived.Deep.Cut
import Derived.Deep.DeepCutAuto
import Derived.Deep.RegionHeld3
import Derived.BigRegion
namespace Go.Proofs.Ytfoffnbkfnbglaa
open Go.RowKit
set_option linter.unusedVariables false
set_option linter.unusedSimpArgs false

set_option maxRecDepth 10000 in
set_option maxHeartbeats 40000000 in
theorem right_5 (C : Cod) (v : Value) (L : List (Nat → Int)) (k : Nat) (w : World) (h : IR w v L) (hk : k < L.length) (hst : C.stage = 1 ∨ C.stage = 2) (ho : L[k] 0 = 5) : Calls Try.prog 36 #[.agg #[.int .i64 (C).stage, v, .int .i64 (C).regs, .int .i64 (C).attr, .int .i64 (C).unif, .int .i64 (C).vary], .int .i64 (k : Int)] w fun e w' => e = .returned (.bool (insB C L.length k L[k])) ∧ Ext w w' := by
  obtain ⟨ao, cap, rfl, hn0, hlc, hcm, hat⟩ := h
  obtain ⟨b, off, rfl, hrg⟩ := hat k hk
  have E := hide (rightP_5 C L.length k L[k] _ rfl ho)
  generalize insB C L.length k L[k] = y at *
  generalize L[k] = I at *
  clear hat hn0
  generalize L.length = n at *
  unfold maxLen at hcm
  have hkn : (k : Int) < (n : Int) := by omega
  have HRNG := hide (rng_ext hrg ((Ext.refl w).alloc (.cells #[.int .i64 (C).stage, .slice (some ⟨b, off, none⟩) n cap, .int .i64 (C).regs, .int .i64 (C).attr, .int .i64 (C).unif, .int .i64 (C).vary] 26)))
  clear hrg
  have HX := hide ((((Ext.refl w).alloc (.cells #[.int .i64 (C).stage, .slice (some ⟨b, off, none⟩) n cap, .int .i64 (C).regs, .int .i64 (C).attr, .int .i64 (C).unif, .int .i64 (C).vary] 26)).alloc (.cells (insA I) 39)).alloc (.cells (insA (ofR [5, 0, 0, 0, 0, 0, 0, 0, 0, 0, 0, 0, 0, 0, 0, 0])) 39))
  have HC : Hid (Blk (((w.alloc (.cells #[.int .i64 (C).stage, .slice (some ⟨b, off, none⟩) n cap, .int .i64 (C).regs, .int .i64 (C).attr, .int .i64 (C).unif, .int .i64 (C).vary] 26)).alloc (.cells (insA I) 39)).alloc (.cells (insA (ofR [5, 0, 0, 0, 0, 0, 0, 0, 0, 0, 0, 0, 0, 0, 0, 0])) 39)) w.heap.size #[.int .i64 (C).stage, .slice (some ⟨b, off, none⟩) n cap, .int .i64 (C).regs, .int .i64 (C).attr, .int .i64 (C).unif, .int .i64 (C).vary] 26) := ((Blk.new w _ _).alloc _).alloc _
  have HI : Hid (Blk (((w.alloc (.cells #[.int .i64 (C).stage, .slice (some ⟨b, off, none⟩) n cap, .int .i64 (C).regs, .int .i64 (C).attr, .int .i64 (C).unif, .int .i64 (C).vary] 26)).alloc (.cells (insA I) 39)).alloc (.cells (insA (ofR [5, 0, 0, 0, 0, 0, 0, 0, 0, 0, 0, 0, 0, 0, 0, 0])) 39)) (w.heap.size + 1) (insA I) 39) := (Blk.here (by simp)).alloc _
  have HO : Hid (Blk (((w.alloc (.cells #[.int .i64 (C).stage, .slice (some ⟨b, off, none⟩) n cap, .int .i64 (C).regs, .int .i64 (C).attr, .int .i64 (C).unif, .int .i64 (C).vary] 26)).alloc (.cells (insA I) 39)).alloc (.cells (insA (ofR [5, 0, 0, 0, 0, 0, 0, 0, 0, 0, 0, 0, 0, 0, 0, 0])) 39)) (w.heap.size + 1 + 1) (insA (ofR [5, 0, 0, 0, 0, 0, 0, 0, 0, 0, 0, 0, 0, 0, 0, 0])) 39) := Blk.here (by simp)
  have j0 : ((w.alloc (.cells #[.int .i64 (C).stage, .slice (some ⟨b, off, none⟩) n cap, .int .i64 (C).regs, .int .i64 (C).attr, .int .i64 (C).unif, .int .i64 (C).vary] 26)).alloc (.cells (insA I) 39)).cell? ⟨w.heap.size + 1, 0, none⟩ = some (.int .i64 5) := by
    have := (cellJ (Blk.here (w := w.alloc (.cells #[.int .i64 (C).stage, .slice (some ⟨b, off, none⟩) n cap, .int .i64 (C).regs, .int .i64 (C).attr, .int .i64 (C).unif, .int .i64 (C).vary] 26)) (b := w.heap.size + 1) (cs := insA I) (t := 39) (by simp))).1
    rw [ho] at this
    exact this
  go_enter Try.func36, Try.ntmps36
  go_upto_region 6 with (first
    | (refine wpList_load_mid rfl 39 (.tmp 13) rfl b (off + k * 16) rfl (insA I).toList _ (unhide HRNG) Try.underlying39 rfl size16 ?_; rw [Array.toArray_toList])
    | refine wpList_storeLast rfl 39 (.tmp 5) (.tmp 14) rfl _ (w.heap.size + 1) (by simp) rfl (insA I) rfl 16 size16 rfl rfl (insA_one I) ?_
    | refine wpList_buildTo rfl 39 _ rfl (some 20) rfl (insA (ofR [5, 0, 0, 0, 0, 0, 0, 0, 0, 0, 0, 0, 0, 0, 0, 0])) (by kernel_rfl) ?_
    | refine wpList_storeLast rfl 39 (.tmp 7) (.tmp 20) rfl _ (w.heap.size + 1 + 1) (by simp) rfl (insA (ofR [5, 0, 0, 0, 0, 0, 0, 0, 0, 0, 0, 0, 0, 0, 0, 0])) rfl 16 size16 rfl rfl (insA_one _) ?_)
  generalize (((w.alloc (.cells #[.int .i64 (C).stage, .slice (some ⟨b, off, none⟩) n cap, .int .i64 (C).regs, .int .i64 (C).attr, .int .i64 (C).unif, .int .i64 (C).vary] 26)).alloc (.cells (insA I) 39)).alloc (.cells (insA (ofR [5, 0, 0, 0, 0, 0, 0, 0, 0, 0, 0, 0, 0, 0, 0, 0])) 39)) = w3 at HX HC HI HO ⊢
  clear j0 HRNG
  obtain ⟨i0, i1, i2, i3, i4, i5, i6, i7⟩ := cellJ (unhide HI)
  obtain ⟨p0, p1, p2, p3⟩ := cellP (unhide HI)
  obtain ⟨m0, m1, m2, m3⟩ := cellM (unhide HI)
  obtain ⟨z0, z1, z2, z3, z4, z5⟩ := cellC (unhide HC)
  obtain ⟨o0, o1, o2, o3, o4, o5, o6, o7⟩ := cellJ (unhide HO)
  obtain ⟨x0, x1, x2, x3⟩ := cellP (unhide HO)
  obtain ⟨y0, y1, y2, y3⟩ := cellM (unhide HO)
  have fo := fun j => (unhide HO).free j
  go_upto_region 38 with fail
  go_region
  have HO2 : Hid (Blk (((((w3.setCell ⟨w.heap.size + 1 + 1, 4, none⟩ (.int .i64 (I 4))).setCell ⟨w.heap.size + 1 + 1, 1, none⟩ (.int .i64 (I 1))).setCell ⟨w.heap.size + 1 + 1, 2, none⟩ (.int .i64 (I 2))).setCell ⟨w.heap.size + 1 + 1, 3, none⟩ (.int .i64 (I 3))).drew) (w.heap.size + 1 + 1) (insA (ofR [5, I 1, I 2, I 3, I 4, 0, 0, 0, 0, 0, 0, 0, 0, 0, 0, 0])) 39) := (((((unhide HO).set 4 (.int .i64 (I 4))).set 1 (.int .i64 (I 1))).set 2 (.int .i64 (I 2))).set 3 (.int .i64 (I 3)))
  have HI2 : Hid (Blk (((((w3.setCell ⟨w.heap.size + 1 + 1, 4, none⟩ (.int .i64 (I 4))).setCell ⟨w.heap.size + 1 + 1, 1, none⟩ (.int .i64 (I 1))).setCell ⟨w.heap.size + 1 + 1, 2, none⟩ (.int .i64 (I 2))).setCell ⟨w.heap.size + 1 + 1, 3, none⟩ (.int .i64 (I 3))).drew) (w.heap.size + 1) (insA I) 39) := (((((unhide HI).other (r := w.heap.size + 1 + 1) 4 (.int .i64 (I 4)) (by omega)).other (r := w.heap.size + 1 + 1) 1 (.int .i64 (I 1)) (by omega)).other (r := w.heap.size + 1 + 1) 2 (.int .i64 (I 2)) (by omega)).other (r := w.heap.size + 1 + 1) 3 (.int .i64 (I 3)) (by omega))
  have HC2 : Hid (Blk (((((w3.setCell ⟨w.heap.size + 1 + 1, 4, none⟩ (.int .i64 (I 4))).setCell ⟨w.heap.size + 1 + 1, 1, none⟩ (.int .i64 (I 1))).setCell ⟨w.heap.size + 1 + 1, 2, none⟩ (.int .i64 (I 2))).setCell ⟨w.heap.size + 1 + 1, 3, none⟩ (.int .i64 (I 3))).drew) w.heap.size #[.int .i64 (C).stage, .slice (some ⟨b, off, none⟩) n cap, .int .i64 (C).regs, .int .i64 (C).attr, .int .i64 (C).unif, .int .i64 (C).vary] 26) := (((((unhide HC).other (r := w.heap.size + 1 + 1) 4 (.int .i64 (I 4)) (by omega)).other (r := w.heap.size + 1 + 1) 1 (.int .i64 (I 1)) (by omega)).other (r := w.heap.size + 1 + 1) 2 (.int .i64 (I 2)) (by omega)).other (r := w.heap.size + 1 + 1) 3 (.int .i64 (I 3)) (by omega))
  have HX2 : Hid (Ext w (((((w3.setCell ⟨w.heap.size + 1 + 1, 4, none⟩ (.int .i64 (I 4))).setCell ⟨w.heap.size + 1 + 1, 1, none⟩ (.int .i64 (I 1))).setCell ⟨w.heap.size + 1 + 1, 2, none⟩ (.int .i64 (I 2))).setCell ⟨w.heap.size + 1 + 1, 3, none⟩ (.int .i64 (I 3))).drew)) := Ext.drew (extSet (i := 3) (v := .int .i64 (I 3)) (extSet (i := 2) (v := .int .i64 (I 2)) (extSet (i := 1) (v := .int .i64 (I 1)) (extSet (i := 4) (v := .int .i64 (I 4)) (unhide HX) (by omega)) (by omega)) (by omega)) (by omega))
  generalize ((((w3.setCell ⟨w.heap.size + 1 + 1, 4, none⟩ (.int .i64 (I 4))).setCell ⟨w.heap.size + 1 + 1, 1, none⟩ (.int .i64 (I 1))).setCell ⟨w.heap.size + 1 + 1, 2, none⟩ (.int .i64 (I 2))).setCell ⟨w.heap.size + 1 + 1, 3, none⟩ (.int .i64 (I 3))).drew = w4 at HO2 HI2 HC2 HX2 ⊢
  clear i0 i1 i2 i3 i4 i5 i6 i7 p0 p1 p2 p3 m0 m1 m2 m3 z0 z1 z2 z3 z4 z5 o0 o1 o2 o3 o4 o5 o6 o7 x0 x1 x2 x3 y0 y1 y2 y3 fo
  clear HO
  have HO := HO2
  clear HO2
  clear HI
  have HI := HI2
  clear HI2
  clear HC
  have HC := HC2
  clear HC2
  clear HX
  have HX := HX2
  clear HX2
  obtain ⟨i0, i1, i2, i3, i4, i5, i6, i7⟩ := cellJ (unhide HI)
  obtain ⟨p0, p1, p2, p3⟩ := cellP (unhide HI)
  obtain ⟨m0, m1, m2, m3⟩ := cellM (unhide HI)
  obtain ⟨z0, z1, z2, z3, z4, z5⟩ := cellC (unhide HC)
  obtain ⟨o0, o1, o2, o3, o4, o5, o6, o7⟩ := cellJ (unhide HO)
  obtain ⟨x0, x1, x2, x3⟩ := cellP (unhide HO)
  obtain ⟨y0, y1, y2, y3⟩ := cellM (unhide HO)
  have fo := fun j => (unhide HO).free j
  have HA := hide (refArgs_any (I 1) (I 2))
  have hle := argsP_le (I 1) (I 2)
  generalize argsP (I 1) (I 2) = m at *
  obtain ⟨z, hz⟩ : ∃ z : Int, z = ((m : Nat) : Int) := ⟨_, rfl⟩
  rw [← hz] at HA
  rcases (by omega : m = 0 ∨ m = 1 ∨ m = 2 ∨ m = 3) with rfl | rfl | rfl | rfl
  · obtain rfl : z = 0 := hz
    go_upto_region 40 with (go_at_call 49; refine (unhide HA _).mono ?_; rintro e w5 ⟨rfl, hw5⟩; obtain rfl := hw5.symm)
    clear HA
    as_aux_lemma =>
      go_upto_region 64 with (go_at_call 35; refine (refIn_any _ _ _).mono ?_; rintro e w5 ⟨rfl, hw5⟩; obtain rfl := hw5.symm)
      have HO2 : Hid (Blk ((w4.setCell ⟨w.heap.size + 1 + 1, 5, none⟩ (.int .i64 (I 5)))) (w.heap.size + 1 + 1) (insA (ofR [5, I 1, I 2, I 3, I 4, I 5, 0, 0, 0, 0, 0, 0, 0, 0, 0, 0])) 39) := ((unhide HO).set 5 (.int .i64 (I 5)))
      have HI2 : Hid (Blk ((w4.setCell ⟨w.heap.size + 1 + 1, 5, none⟩ (.int .i64 (I 5)))) (w.heap.size + 1) (insA I) 39) := ((unhide HI).other (r := w.heap.size + 1 + 1) 5 (.int .i64 (I 5)) (by omega))
      have HC2 : Hid (Blk ((w4.setCell ⟨w.heap.size + 1 + 1, 5, none⟩ (.int .i64 (I 5)))) w.heap.size #[.int .i64 (C).stage, .slice (some ⟨b, off, none⟩) n cap, .int .i64 (C).regs, .int .i64 (C).attr, .int .i64 (C).unif, .int .i64 (C).vary] 26) := ((unhide HC).other (r := w.heap.size + 1 + 1) 5 (.int .i64 (I 5)) (by omega))
      have HX2 : Hid (Ext w ((w4.setCell ⟨w.heap.size + 1 + 1, 5, none⟩ (.int .i64 (I 5))))) := (extSet (i := 5) (v := .int .i64 (I 5)) (unhide HX) (by omega))
      generalize (w4.setCell ⟨w.heap.size + 1 + 1, 5, none⟩ (.int .i64 (I 5))) = w6 at HO2 HI2 HC2 HX2 ⊢
      clear i0 i1 i2 i3 i4 i5 i6 i7 p0 p1 p2 p3 m0 m1 m2 m3 z0 z1 z2 z3 z4 z5 o0 o1 o2 o3 o4 o5 o6 o7 x0 x1 x2 x3 y0 y1 y2 y3 fo
      clear HO
      have HO := HO2
      clear HO2
      clear HI
      have HI := HI2
      clear HI2
      clear HC
      have HC := HC2
      clear HC2
      clear HX
      have HX := HX2
      clear HX2
      obtain ⟨i0, i1, i2, i3, i4, i5, i6, i7⟩ := cellJ (unhide HI)
      obtain ⟨p0, p1, p2, p3⟩ := cellP (unhide HI)
      obtain ⟨m0, m1, m2, m3⟩ := cellM (unhide HI)
      obtain ⟨z0, z1, z2, z3, z4, z5⟩ := cellC (unhide HC)
      obtain ⟨o0, o1, o2, o3, o4, o5, o6, o7⟩ := cellJ (unhide HO)
      obtain ⟨x0, x1, x2, x3⟩ := cellP (unhide HO)
      obtain ⟨y0, y1, y2, y3⟩ := cellM (unhide HO)
      have fo := fun j => (unhide HO).free j
      go_wp2
      go_ret
      rw [unhide E]
      exact ⟨rfl, unhide HX⟩
  · obtain rfl : z = 1 := hz
    go_upto_region 40 with (go_at_call 49; refine (unhide HA _).mono ?_; rintro e w5 ⟨rfl, hw5⟩; obtain rfl := hw5.symm)
    clear HA
    by_cases n1 : 1 ≤ I 3
    · rw [decide_eq_true n1] at E
      by_cases n4 : I 3 ≤ 4
      · rw [decide_eq_true n4] at E
        cases q4 : inB (I 4) C.regs
        · rw [q4] at E
          as_aux_lemma =>
            go_upto_region 64 with (go_at_call 35; refine (refIn_any _ _ _).mono ?_; rintro e w5 ⟨rfl, hw5⟩; obtain rfl := hw5.symm)
            have HO2 : Hid (Blk ((w4.setCell ⟨w.heap.size + 1 + 1, 5, none⟩ (.int .i64 (I 5)))) (w.heap.size + 1 + 1) (insA (ofR [5, I 1, I 2, I 3, I 4, I 5, 0, 0, 0, 0, 0, 0, 0, 0, 0, 0])) 39) := ((unhide HO).set 5 (.int .i64 (I 5)))
            have HI2 : Hid (Blk ((w4.setCell ⟨w.heap.size + 1 + 1, 5, none⟩ (.int .i64 (I 5)))) (w.heap.size + 1) (insA I) 39) := ((unhide HI).other (r := w.heap.size + 1 + 1) 5 (.int .i64 (I 5)) (by omega))
            have HC2 : Hid (Blk ((w4.setCell ⟨w.heap.size + 1 + 1, 5, none⟩ (.int .i64 (I 5)))) w.heap.size #[.int .i64 (C).stage, .slice (some ⟨b, off, none⟩) n cap, .int .i64 (C).regs, .int .i64 (C).attr, .int .i64 (C).unif, .int .i64 (C).vary] 26) := ((unhide HC).other (r := w.heap.size + 1 + 1) 5 (.int .i64 (I 5)) (by omega))
            have HX2 : Hid (Ext w ((w4.setCell ⟨w.heap.size + 1 + 1, 5, none⟩ (.int .i64 (I 5))))) := (extSet (i := 5) (v := .int .i64 (I 5)) (unhide HX) (by omega))
            generalize (w4.setCell ⟨w.heap.size + 1 + 1, 5, none⟩ (.int .i64 (I 5))) = w6 at HO2 HI2 HC2 HX2 ⊢
            clear i0 i1 i2 i3 i4 i5 i6 i7 p0 p1 p2 p3 m0 m1 m2 m3 z0 z1 z2 z3 z4 z5 o0 o1 o2 o3 o4 o5 o6 o7 x0 x1 x2 x3 y0 y1 y2 y3 fo
            clear HO
            have HO := HO2
            clear HO2
            clear HI
            have HI := HI2
            clear HI2
            clear HC
            have HC := HC2
            clear HC2
            clear HX
            have HX := HX2
            clear HX2
            obtain ⟨i0, i1, i2, i3, i4, i5, i6, i7⟩ := cellJ (unhide HI)
            obtain ⟨p0, p1, p2, p3⟩ := cellP (unhide HI)
            obtain ⟨m0, m1, m2, m3⟩ := cellM (unhide HI)
            obtain ⟨z0, z1, z2, z3, z4, z5⟩ := cellC (unhide HC)
            obtain ⟨o0, o1, o2, o3, o4, o5, o6, o7⟩ := cellJ (unhide HO)
            obtain ⟨x0, x1, x2, x3⟩ := cellP (unhide HO)
            obtain ⟨y0, y1, y2, y3⟩ := cellM (unhide HO)
            have fo := fun j => (unhide HO).free j
            go_wp2
            go_ret
            rw [unhide E]
            exact ⟨rfl, unhide HX⟩
        · rw [q4] at E
          cases q5 : inB (I 5) C.regs
          · rw [q5] at E
            as_aux_lemma =>
              go_upto_region 64 with (go_at_call 35; refine (refIn_any _ _ _).mono ?_; rintro e w5 ⟨rfl, hw5⟩; obtain rfl := hw5.symm)
              have HO2 : Hid (Blk ((w4.setCell ⟨w.heap.size + 1 + 1, 5, none⟩ (.int .i64 (I 5)))) (w.heap.size + 1 + 1) (insA (ofR [5, I 1, I 2, I 3, I 4, I 5, 0, 0, 0, 0, 0, 0, 0, 0, 0, 0])) 39) := ((unhide HO).set 5 (.int .i64 (I 5)))
              have HI2 : Hid (Blk ((w4.setCell ⟨w.heap.size + 1 + 1, 5, none⟩ (.int .i64 (I 5)))) (w.heap.size + 1) (insA I) 39) := ((unhide HI).other (r := w.heap.size + 1 + 1) 5 (.int .i64 (I 5)) (by omega))
              have HC2 : Hid (Blk ((w4.setCell ⟨w.heap.size + 1 + 1, 5, none⟩ (.int .i64 (I 5)))) w.heap.size #[.int .i64 (C).stage, .slice (some ⟨b, off, none⟩) n cap, .int .i64 (C).regs, .int .i64 (C).attr, .int .i64 (C).unif, .int .i64 (C).vary] 26) := ((unhide HC).other (r := w.heap.size + 1 + 1) 5 (.int .i64 (I 5)) (by omega))
              have HX2 : Hid (Ext w ((w4.setCell ⟨w.heap.size + 1 + 1, 5, none⟩ (.int .i64 (I 5))))) := (extSet (i := 5) (v := .int .i64 (I 5)) (unhide HX) (by omega))
              generalize (w4.setCell ⟨w.heap.size + 1 + 1, 5, none⟩ (.int .i64 (I 5))) = w6 at HO2 HI2 HC2 HX2 ⊢
              clear i0 i1 i2 i3 i4 i5 i6 i7 p0 p1 p2 p3 m0 m1 m2 m3 z0 z1 z2 z3 z4 z5 o0 o1 o2 o3 o4 o5 o6 o7 x0 x1 x2 x3 y0 y1 y2 y3 fo
              clear HO
              have HO := HO2
              clear HO2
              clear HI
              have HI := HI2
              clear HI2
              clear HC
              have HC := HC2
              clear HC2
              clear HX
              have HX := HX2
              clear HX2
              obtain ⟨i0, i1, i2, i3, i4, i5, i6, i7⟩ := cellJ (unhide HI)
              obtain ⟨p0, p1, p2, p3⟩ := cellP (unhide HI)
              obtain ⟨m0, m1, m2, m3⟩ := cellM (unhide HI)
              obtain ⟨z0, z1, z2, z3, z4, z5⟩ := cellC (unhide HC)
              obtain ⟨o0, o1, o2, o3, o4, o5, o6, o7⟩ := cellJ (unhide HO)
              obtain ⟨x0, x1, x2, x3⟩ := cellP (unhide HO)
              obtain ⟨y0, y1, y2, y3⟩ := cellM (unhide HO)
              have fo := fun j => (unhide HO).free j
              go_wp2
              go_ret
              rw [unhide E]
              exact ⟨rfl, unhide HX⟩
          · rw [q5] at E
            as_aux_lemma =>
              go_upto_region 64 with (go_at_call 35; refine (refIn_any _ _ _).mono ?_; rintro e w5 ⟨rfl, hw5⟩; obtain rfl := hw5.symm)
              have HO2 : Hid (Blk ((w4.setCell ⟨w.heap.size + 1 + 1, 5, none⟩ (.int .i64 (I 5)))) (w.heap.size + 1 + 1) (insA (ofR [5, I 1, I 2, I 3, I 4, I 5, 0, 0, 0, 0, 0, 0, 0, 0, 0, 0])) 39) := ((unhide HO).set 5 (.int .i64 (I 5)))
              have HI2 : Hid (Blk ((w4.setCell ⟨w.heap.size + 1 + 1, 5, none⟩ (.int .i64 (I 5)))) (w.heap.size + 1) (insA I) 39) := ((unhide HI).other (r := w.heap.size + 1 + 1) 5 (.int .i64 (I 5)) (by omega))
              have HC2 : Hid (Blk ((w4.setCell ⟨w.heap.size + 1 + 1, 5, none⟩ (.int .i64 (I 5)))) w.heap.size #[.int .i64 (C).stage, .slice (some ⟨b, off, none⟩) n cap, .int .i64 (C).regs, .int .i64 (C).attr, .int .i64 (C).unif, .int .i64 (C).vary] 26) := ((unhide HC).other (r := w.heap.size + 1 + 1) 5 (.int .i64 (I 5)) (by omega))
              have HX2 : Hid (Ext w ((w4.setCell ⟨w.heap.size + 1 + 1, 5, none⟩ (.int .i64 (I 5))))) := (extSet (i := 5) (v := .int .i64 (I 5)) (unhide HX) (by omega))
              generalize (w4.setCell ⟨w.heap.size + 1 + 1, 5, none⟩ (.int .i64 (I 5))) = w6 at HO2 HI2 HC2 HX2 ⊢
              clear i0 i1 i2 i3 i4 i5 i6 i7 p0 p1 p2 p3 m0 m1 m2 m3 z0 z1 z2 z3 z4 z5 o0 o1 o2 o3 o4 o5 o6 o7 x0 x1 x2 x3 y0 y1 y2 y3 fo
              clear HO
              have HO := HO2
              clear HO2
              clear HI
              have HI := HI2
              clear HI2
              clear HC
              have HC := HC2
              clear HC2
              clear HX
              have HX := HX2
              clear HX2
              obtain ⟨i0, i1, i2, i3, i4, i5, i6, i7⟩ := cellJ (unhide HI)
              obtain ⟨p0, p1, p2, p3⟩ := cellP (unhide HI)
              obtain ⟨m0, m1, m2, m3⟩ := cellM (unhide HI)
              obtain ⟨z0, z1, z2, z3, z4, z5⟩ := cellC (unhide HC)
              obtain ⟨o0, o1, o2, o3, o4, o5, o6, o7⟩ := cellJ (unhide HO)
              obtain ⟨x0, x1, x2, x3⟩ := cellP (unhide HO)
              obtain ⟨y0, y1, y2, y3⟩ := cellM (unhide HO)
              have fo := fun j => (unhide HO).free j
              go_wp2_with (first
                | refine wpList_load_row_wantR rfl 39 (.tmp 7) rfl (w.heap.size + 1 + 1) rfl 39 _ (0, 0) _ (unhide HO) Try.underlying39 rfl size16 ?_
                | refine wpList_load_row_wantR rfl 39 (.tmp 5) rfl (w.heap.size + 1) rfl 39 (insA I) (0, 0) _ (unhide HI) Try.underlying39 rfl size16 ?_
                | refine wpList_eq_wantR rfl (.tmp 408) (.tmp 409) 39 39 _ _ _ rfl rfl rfl grdI (eqI _ _ _) ?_)
              go_ret
              rw [unhide E]
              exact ⟨rfl, unhide HX⟩
      · rw [decide_eq_false n4] at E
        as_aux_lemma =>
          go_upto_region 64 with (go_at_call 35; refine (refIn_any _ _ _).mono ?_; rintro e w5 ⟨rfl, hw5⟩; obtain rfl := hw5.symm)
          have HO2 : Hid (Blk ((w4.setCell ⟨w.heap.size + 1 + 1, 5, none⟩ (.int .i64 (I 5)))) (w.heap.size + 1 + 1) (insA (ofR [5, I 1, I 2, I 3, I 4, I 5, 0, 0, 0, 0, 0, 0, 0, 0, 0, 0])) 39) := ((unhide HO).set 5 (.int .i64 (I 5)))
          have HI2 : Hid (Blk ((w4.setCell ⟨w.heap.size + 1 + 1, 5, none⟩ (.int .i64 (I 5)))) (w.heap.size + 1) (insA I) 39) := ((unhide HI).other (r := w.heap.size + 1 + 1) 5 (.int .i64 (I 5)) (by omega))
          have HC2 : Hid (Blk ((w4.setCell ⟨w.heap.size + 1 + 1, 5, none⟩ (.int .i64 (I 5)))) w.heap.size #[.int .i64 (C).stage, .slice (some ⟨b, off, none⟩) n cap, .int .i64 (C).regs, .int .i64 (C).attr, .int .i64 (C).unif, .int .i64 (C).vary] 26) := ((unhide HC).other (r := w.heap.size + 1 + 1) 5 (.int .i64 (I 5)) (by omega))
          have HX2 : Hid (Ext w ((w4.setCell ⟨w.heap.size + 1 + 1, 5, none⟩ (.int .i64 (I 5))))) := (extSet (i := 5) (v := .int .i64 (I 5)) (unhide HX) (by omega))
          generalize (w4.setCell ⟨w.heap.size + 1 + 1, 5, none⟩ (.int .i64 (I 5))) = w6 at HO2 HI2 HC2 HX2 ⊢
          clear i0 i1 i2 i3 i4 i5 i6 i7 p0 p1 p2 p3 m0 m1 m2 m3 z0 z1 z2 z3 z4 z5 o0 o1 o2 o3 o4 o5 o6 o7 x0 x1 x2 x3 y0 y1 y2 y3 fo
          clear HO
          have HO := HO2
          clear HO2
          clear HI
          have HI := HI2
          clear HI2
          clear HC
          have HC := HC2
          clear HC2
          clear HX
          have HX := HX2
          clear HX2
          obtain ⟨i0, i1, i2, i3, i4, i5, i6, i7⟩ := cellJ (unhide HI)
          obtain ⟨p0, p1, p2, p3⟩ := cellP (unhide HI)
          obtain ⟨m0, m1, m2, m3⟩ := cellM (unhide HI)
          obtain ⟨z0, z1, z2, z3, z4, z5⟩ := cellC (unhide HC)
          obtain ⟨o0, o1, o2, o3, o4, o5, o6, o7⟩ := cellJ (unhide HO)
          obtain ⟨x0, x1, x2, x3⟩ := cellP (unhide HO)
          obtain ⟨y0, y1, y2, y3⟩ := cellM (unhide HO)
          have fo := fun j => (unhide HO).free j
          go_wp2
          go_ret
          rw [unhide E]
          exact ⟨rfl, unhide HX⟩
    · rw [decide_eq_false n1] at E
      as_aux_lemma =>
        go_upto_region 64 with (go_at_call 35; refine (refIn_any _ _ _).mono ?_; rintro e w5 ⟨rfl, hw5⟩; obtain rfl := hw5.symm)
        have HO2 : Hid (Blk ((w4.setCell ⟨w.heap.size + 1 + 1, 5, none⟩ (.int .i64 (I 5)))) (w.heap.size + 1 + 1) (insA (ofR [5, I 1, I 2, I 3, I 4, I 5, 0, 0, 0, 0, 0, 0, 0, 0, 0, 0])) 39) := ((unhide HO).set 5 (.int .i64 (I 5)))
        have HI2 : Hid (Blk ((w4.setCell ⟨w.heap.size + 1 + 1, 5, none⟩ (.int .i64 (I 5)))) (w.heap.size + 1) (insA I) 39) := ((unhide HI).other (r := w.heap.size + 1 + 1) 5 (.int .i64 (I 5)) (by omega))
        have HC2 : Hid (Blk ((w4.setCell ⟨w.heap.size + 1 + 1, 5, none⟩ (.int .i64 (I 5)))) w.heap.size #[.int .i64 (C).stage, .slice (some ⟨b, off, none⟩) n cap, .int .i64 (C).regs, .int .i64 (C).attr, .int .i64 (C).unif, .int .i64 (C).vary] 26) := ((unhide HC).other (r := w.heap.size + 1 + 1) 5 (.int .i64 (I 5)) (by omega))
        have HX2 : Hid (Ext w ((w4.setCell ⟨w.heap.size + 1 + 1, 5, none⟩ (.int .i64 (I 5))))) := (extSet (i := 5) (v := .int .i64 (I 5)) (unhide HX) (by omega))
        generalize (w4.setCell ⟨w.heap.size + 1 + 1, 5, none⟩ (.int .i64 (I 5))) = w6 at HO2 HI2 HC2 HX2 ⊢
        clear i0 i1 i2 i3 i4 i5 i6 i7 p0 p1 p2 p3 m0 m1 m2 m3 z0 z1 z2 z3 z4 z5 o0 o1 o2 o3 o4 o5 o6 o7 x0 x1 x2 x3 y0 y1 y2 y3 fo
        clear HO
        have HO := HO2
        clear HO2
        clear HI
        have HI := HI2
        clear HI2
        clear HC
        have HC := HC2
        clear HC2
        clear HX
        have HX := HX2
        clear HX2
        obtain ⟨i0, i1, i2, i3, i4, i5, i6, i7⟩ := cellJ (unhide HI)
        obtain ⟨p0, p1, p2, p3⟩ := cellP (unhide HI)
        obtain ⟨m0, m1, m2, m3⟩ := cellM (unhide HI)
        obtain ⟨z0, z1, z2, z3, z4, z5⟩ := cellC (unhide HC)
        obtain ⟨o0, o1, o2, o3, o4, o5, o6, o7⟩ := cellJ (unhide HO)
        obtain ⟨x0, x1, x2, x3⟩ := cellP (unhide HO)
        obtain ⟨y0, y1, y2, y3⟩ := cellM (unhide HO)
        have fo := fun j => (unhide HO).free j
        go_wp2
        go_ret
        rw [unhide E]
        exact ⟨rfl, unhide HX⟩
  · obtain rfl : z = 2 := hz
    go_upto_region 40 with (go_at_call 49; refine (unhide HA _).mono ?_; rintro e w5 ⟨rfl, hw5⟩; obtain rfl := hw5.symm)
    clear HA
    by_cases n1 : 1 ≤ I 3
    · rw [decide_eq_true n1] at E
      by_cases n4 : I 3 ≤ 4
      · rw [decide_eq_true n4] at E
        cases q4 : inB (I 4) C.regs
        · rw [q4] at E
          as_aux_lemma =>
            go_upto_region 64 with (go_at_call 35; refine (refIn_any _ _ _).mono ?_; rintro e w5 ⟨rfl, hw5⟩; obtain rfl := hw5.symm)
            have HO2 : Hid (Blk (((w4.setCell ⟨w.heap.size + 1 + 1, 5, none⟩ (.int .i64 (I 5))).setCell ⟨w.heap.size + 1 + 1, 6, none⟩ (.int .i64 (I 6)))) (w.heap.size + 1 + 1) (insA (ofR [5, I 1, I 2, I 3, I 4, I 5, I 6, 0, 0, 0, 0, 0, 0, 0, 0, 0])) 39) := (((unhide HO).set 5 (.int .i64 (I 5))).set 6 (.int .i64 (I 6)))
            have HI2 : Hid (Blk (((w4.setCell ⟨w.heap.size + 1 + 1, 5, none⟩ (.int .i64 (I 5))).setCell ⟨w.heap.size + 1 + 1, 6, none⟩ (.int .i64 (I 6)))) (w.heap.size + 1) (insA I) 39) := (((unhide HI).other (r := w.heap.size + 1 + 1) 5 (.int .i64 (I 5)) (by omega)).other (r := w.heap.size + 1 + 1) 6 (.int .i64 (I 6)) (by omega))
            have HC2 : Hid (Blk (((w4.setCell ⟨w.heap.size + 1 + 1, 5, none⟩ (.int .i64 (I 5))).setCell ⟨w.heap.size + 1 + 1, 6, none⟩ (.int .i64 (I 6)))) w.heap.size #[.int .i64 (C).stage, .slice (some ⟨b, off, none⟩) n cap, .int .i64 (C).regs, .int .i64 (C).attr, .int .i64 (C).unif, .int .i64 (C).vary] 26) := (((unhide HC).other (r := w.heap.size + 1 + 1) 5 (.int .i64 (I 5)) (by omega)).other (r := w.heap.size + 1 + 1) 6 (.int .i64 (I 6)) (by omega))
            have HX2 : Hid (Ext w (((w4.setCell ⟨w.heap.size + 1 + 1, 5, none⟩ (.int .i64 (I 5))).setCell ⟨w.heap.size + 1 + 1, 6, none⟩ (.int .i64 (I 6))))) := (extSet (i := 6) (v := .int .i64 (I 6)) (extSet (i := 5) (v := .int .i64 (I 5)) (unhide HX) (by omega)) (by omega))
            generalize ((w4.setCell ⟨w.heap.size + 1 + 1, 5, none⟩ (.int .i64 (I 5))).setCell ⟨w.heap.size + 1 + 1, 6, none⟩ (.int .i64 (I 6))) = w6 at HO2 HI2 HC2 HX2 ⊢
            clear i0 i1 i2 i3 i4 i5 i6 i7 p0 p1 p2 p3 m0 m1 m2 m3 z0 z1 z2 z3 z4 z5 o0 o1 o2 o3 o4 o5 o6 o7 x0 x1 x2 x3 y0 y1 y2 y3 fo
            clear HO
            have HO := HO2
            clear HO2
            clear HI
            have HI := HI2
            clear HI2
            clear HC
            have HC := HC2
            clear HC2
            clear HX
            have HX := HX2
            clear HX2
            obtain ⟨i0, i1, i2, i3, i4, i5, i6, i7⟩ := cellJ (unhide HI)
            obtain ⟨p0, p1, p2, p3⟩ := cellP (unhide HI)
            obtain ⟨m0, m1, m2, m3⟩ := cellM (unhide HI)
            obtain ⟨z0, z1, z2, z3, z4, z5⟩ := cellC (unhide HC)
            obtain ⟨o0, o1, o2, o3, o4, o5, o6, o7⟩ := cellJ (unhide HO)
            obtain ⟨x0, x1, x2, x3⟩ := cellP (unhide HO)
            obtain ⟨y0, y1, y2, y3⟩ := cellM (unhide HO)
            have fo := fun j => (unhide HO).free j
            go_wp2
            go_ret
            rw [unhide E]
            exact ⟨rfl, unhide HX⟩
        · rw [q4] at E
          cases q5 : inB (I 5) C.regs
          · rw [q5] at E
            as_aux_lemma =>
              go_upto_region 64 with (go_at_call 35; refine (refIn_any _ _ _).mono ?_; rintro e w5 ⟨rfl, hw5⟩; obtain rfl := hw5.symm)
              have HO2 : Hid (Blk (((w4.setCell ⟨w.heap.size + 1 + 1, 5, none⟩ (.int .i64 (I 5))).setCell ⟨w.heap.size + 1 + 1, 6, none⟩ (.int .i64 (I 6)))) (w.heap.size + 1 + 1) (insA (ofR [5, I 1, I 2, I 3, I 4, I 5, I 6, 0, 0, 0, 0, 0, 0, 0, 0, 0])) 39) := (((unhide HO).set 5 (.int .i64 (I 5))).set 6 (.int .i64 (I 6)))
              have HI2 : Hid (Blk (((w4.setCell ⟨w.heap.size + 1 + 1, 5, none⟩ (.int .i64 (I 5))).setCell ⟨w.heap.size + 1 + 1, 6, none⟩ (.int .i64 (I 6)))) (w.heap.size + 1) (insA I) 39) := (((unhide HI).other (r := w.heap.size + 1 + 1) 5 (.int .i64 (I 5)) (by omega)).other (r := w.heap.size + 1 + 1) 6 (.int .i64 (I 6)) (by omega))
              have HC2 : Hid (Blk (((w4.setCell ⟨w.heap.size + 1 + 1, 5, none⟩ (.int .i64 (I 5))).setCell ⟨w.heap.size + 1 + 1, 6, none⟩ (.int .i64 (I 6)))) w.heap.size #[.int .i64 (C).stage, .slice (some ⟨b, off, none⟩) n cap, .int .i64 (C).regs, .int .i64 (C).attr, .int .i64 (C).unif, .int .i64 (C).vary] 26) := (((unhide HC).other (r := w.heap.size + 1 + 1) 5 (.int .i64 (I 5)) (by omega)).other (r := w.heap.size + 1 + 1) 6 (.int .i64 (I 6)) (by omega))
              have HX2 : Hid (Ext w (((w4.setCell ⟨w.heap.size + 1 + 1, 5, none⟩ (.int .i64 (I 5))).setCell ⟨w.heap.size + 1 + 1, 6, none⟩ (.int .i64 (I 6))))) := (extSet (i := 6) (v := .int .i64 (I 6)) (extSet (i := 5) (v := .int .i64 (I 5)) (unhide HX) (by omega)) (by omega))
              generalize ((w4.setCell ⟨w.heap.size + 1 + 1, 5, none⟩ (.int .i64 (I 5))).setCell ⟨w.heap.size + 1 + 1, 6, none⟩ (.int .i64 (I 6))) = w6 at HO2 HI2 HC2 HX2 ⊢
              clear i0 i1 i2 i3 i4 i5 i6 i7 p0 p1 p2 p3 m0 m1 m2 m3 z0 z1 z2 z3 z4 z5 o0 o1 o2 o3 o4 o5 o6 o7 x0 x1 x2 x3 y0 y1 y2 y3 fo
              clear HO
              have HO := HO2
              clear HO2
              clear HI
              have HI := HI2
              clear HI2
              clear HC
              have HC := HC2
              clear HC2
              clear HX
              have HX := HX2
              clear HX2
              obtain ⟨i0, i1, i2, i3, i4, i5, i6, i7⟩ := cellJ (unhide HI)
              obtain ⟨p0, p1, p2, p3⟩ := cellP (unhide HI)
              obtain ⟨m0, m1, m2, m3⟩ := cellM (unhide HI)
              obtain ⟨z0, z1, z2, z3, z4, z5⟩ := cellC (unhide HC)
              obtain ⟨o0, o1, o2, o3, o4, o5, o6, o7⟩ := cellJ (unhide HO)
              obtain ⟨x0, x1, x2, x3⟩ := cellP (unhide HO)
              obtain ⟨y0, y1, y2, y3⟩ := cellM (unhide HO)
              have fo := fun j => (unhide HO).free j
              go_wp2
              go_ret
              rw [unhide E]
              exact ⟨rfl, unhide HX⟩
          · rw [q5] at E
            cases q6 : inB (I 6) C.regs
            · rw [q6] at E
              as_aux_lemma =>
                go_upto_region 64 with (go_at_call 35; refine (refIn_any _ _ _).mono ?_; rintro e w5 ⟨rfl, hw5⟩; obtain rfl := hw5.symm)
                have HO2 : Hid (Blk (((w4.setCell ⟨w.heap.size + 1 + 1, 5, none⟩ (.int .i64 (I 5))).setCell ⟨w.heap.size + 1 + 1, 6, none⟩ (.int .i64 (I 6)))) (w.heap.size + 1 + 1) (insA (ofR [5, I 1, I 2, I 3, I 4, I 5, I 6, 0, 0, 0, 0, 0, 0, 0, 0, 0])) 39) := (((unhide HO).set 5 (.int .i64 (I 5))).set 6 (.int .i64 (I 6)))
                have HI2 : Hid (Blk (((w4.setCell ⟨w.heap.size + 1 + 1, 5, none⟩ (.int .i64 (I 5))).setCell ⟨w.heap.size + 1 + 1, 6, none⟩ (.int .i64 (I 6)))) (w.heap.size + 1) (insA I) 39) := (((unhide HI).other (r := w.heap.size + 1 + 1) 5 (.int .i64 (I 5)) (by omega)).other (r := w.heap.size + 1 + 1) 6 (.int .i64 (I 6)) (by omega))
                have HC2 : Hid (Blk (((w4.setCell ⟨w.heap.size + 1 + 1, 5, none⟩ (.int .i64 (I 5))).setCell ⟨w.heap.size + 1 + 1, 6, none⟩ (.int .i64 (I 6)))) w.heap.size #[.int .i64 (C).stage, .slice (some ⟨b, off, none⟩) n cap, .int .i64 (C).regs, .int .i64 (C).attr, .int .i64 (C).unif, .int .i64 (C).vary] 26) := (((unhide HC).other (r := w.heap.size + 1 + 1) 5 (.int .i64 (I 5)) (by omega)).other (r := w.heap.size + 1 + 1) 6 (.int .i64 (I 6)) (by omega))
                have HX2 : Hid (Ext w (((w4.setCell ⟨w.heap.size + 1 + 1, 5, none⟩ (.int .i64 (I 5))).setCell ⟨w.heap.size + 1 + 1, 6, none⟩ (.int .i64 (I 6))))) := (extSet (i := 6) (v := .int .i64 (I 6)) (extSet (i := 5) (v := .int .i64 (I 5)) (unhide HX) (by omega)) (by omega))
                generalize ((w4.setCell ⟨w.heap.size + 1 + 1, 5, none⟩ (.int .i64 (I 5))).setCell ⟨w.heap.size + 1 + 1, 6, none⟩ (.int .i64 (I 6))) = w6 at HO2 HI2 HC2 HX2 ⊢
                clear i0 i1 i2 i3 i4 i5 i6 i7 p0 p1 p2 p3 m0 m1 m2 m3 z0 z1 z2 z3 z4 z5 o0 o1 o2 o3 o4 o5 o6 o7 x0 x1 x2 x3 y0 y1 y2 y3 fo
                clear HO
                have HO := HO2
                clear HO2
                clear HI
                have HI := HI2
                clear HI2
                clear HC
                have HC := HC2
                clear HC2
                clear HX
                have HX := HX2
                clear HX2
                obtain ⟨i0, i1, i2, i3, i4, i5, i6, i7⟩ := cellJ (unhide HI)
                obtain ⟨p0, p1, p2, p3⟩ := cellP (unhide HI)
                obtain ⟨m0, m1, m2, m3⟩ := cellM (unhide HI)
                obtain ⟨z0, z1, z2, z3, z4, z5⟩ := cellC (unhide HC)
                obtain ⟨o0, o1, o2, o3, o4, o5, o6, o7⟩ := cellJ (unhide HO)
                obtain ⟨x0, x1, x2, x3⟩ := cellP (unhide HO)
                obtain ⟨y0, y1, y2, y3⟩ := cellM (unhide HO)
                have fo := fun j => (unhide HO).free j
                go_wp2
                go_ret
                rw [unhide E]
                exact ⟨rfl, unhide HX⟩
            · rw [q6] at E
              as_aux_lemma =>
                go_upto_region 64 with (go_at_call 35; refine (refIn_any _ _ _).mono ?_; rintro e w5 ⟨rfl, hw5⟩; obtain rfl := hw5.symm)
                have HO2 : Hid (Blk (((w4.setCell ⟨w.heap.size + 1 + 1, 5, none⟩ (.int .i64 (I 5))).setCell ⟨w.heap.size + 1 + 1, 6, none⟩ (.int .i64 (I 6)))) (w.heap.size + 1 + 1) (insA (ofR [5, I 1, I 2, I 3, I 4, I 5, I 6, 0, 0, 0, 0, 0, 0, 0, 0, 0])) 39) := (((unhide HO).set 5 (.int .i64 (I 5))).set 6 (.int .i64 (I 6)))
                have HI2 : Hid (Blk (((w4.setCell ⟨w.heap.size + 1 + 1, 5, none⟩ (.int .i64 (I 5))).setCell ⟨w.heap.size + 1 + 1, 6, none⟩ (.int .i64 (I 6)))) (w.heap.size + 1) (insA I) 39) := (((unhide HI).other (r := w.heap.size + 1 + 1) 5 (.int .i64 (I 5)) (by omega)).other (r := w.heap.size + 1 + 1) 6 (.int .i64 (I 6)) (by omega))
                have HC2 : Hid (Blk (((w4.setCell ⟨w.heap.size + 1 + 1, 5, none⟩ (.int .i64 (I 5))).setCell ⟨w.heap.size + 1 + 1, 6, none⟩ (.int .i64 (I 6)))) w.heap.size #[.int .i64 (C).stage, .slice (some ⟨b, off, none⟩) n cap, .int .i64 (C).regs, .int .i64 (C).attr, .int .i64 (C).unif, .int .i64 (C).vary] 26) := (((unhide HC).other (r := w.heap.size + 1 + 1) 5 (.int .i64 (I 5)) (by omega)).other (r := w.heap.size + 1 + 1) 6 (.int .i64 (I 6)) (by omega))
                have HX2 : Hid (Ext w (((w4.setCell ⟨w.heap.size + 1 + 1, 5, none⟩ (.int .i64 (I 5))).setCell ⟨w.heap.size + 1 + 1, 6, none⟩ (.int .i64 (I 6))))) := (extSet (i := 6) (v := .int .i64 (I 6)) (extSet (i := 5) (v := .int .i64 (I 5)) (unhide HX) (by omega)) (by omega))
                generalize ((w4.setCell ⟨w.heap.size + 1 + 1, 5, none⟩ (.int .i64 (I 5))).setCell ⟨w.heap.size + 1 + 1, 6, none⟩ (.int .i64 (I 6))) = w6 at HO2 HI2 HC2 HX2 ⊢
                clear i0 i1 i2 i3 i4 i5 i6 i7 p0 p1 p2 p3 m0 m1 m2 m3 z0 z1 z2 z3 z4 z5 o0 o1 o2 o3 o4 o5 o6 o7 x0 x1 x2 x3 y0 y1 y2 y3 fo
                clear HO
                have HO := HO2
                clear HO2
                clear HI
                have HI := HI2
                clear HI2
                clear HC
                have HC := HC2
                clear HC2
                clear HX
                have HX := HX2
                clear HX2
                obtain ⟨i0, i1, i2, i3, i4, i5, i6, i7⟩ := cellJ (unhide HI)
                obtain ⟨p0, p1, p2, p3⟩ := cellP (unhide HI)
                obtain ⟨m0, m1, m2, m3⟩ := cellM (unhide HI)
                obtain ⟨z0, z1, z2, z3, z4, z5⟩ := cellC (unhide HC)
                obtain ⟨o0, o1, o2, o3, o4, o5, o6, o7⟩ := cellJ (unhide HO)
                obtain ⟨x0, x1, x2, x3⟩ := cellP (unhide HO)
                obtain ⟨y0, y1, y2, y3⟩ := cellM (unhide HO)
                have fo := fun j => (unhide HO).free j
                go_wp2_with (first
                  | refine wpList_load_row_wantR rfl 39 (.tmp 7) rfl (w.heap.size + 1 + 1) rfl 39 _ (0, 0) _ (unhide HO) Try.underlying39 rfl size16 ?_
                  | refine wpList_load_row_wantR rfl 39 (.tmp 5) rfl (w.heap.size + 1) rfl 39 (insA I) (0, 0) _ (unhide HI) Try.underlying39 rfl size16 ?_
                  | refine wpList_eq_wantR rfl (.tmp 408) (.tmp 409) 39 39 _ _ _ rfl rfl rfl grdI (eqI _ _ _) ?_)
                go_ret
                rw [unhide E]
                exact ⟨rfl, unhide HX⟩
      · rw [decide_eq_false n4] at E
        as_aux_lemma =>
          go_upto_region 64 with (go_at_call 35; refine (refIn_any _ _ _).mono ?_; rintro e w5 ⟨rfl, hw5⟩; obtain rfl := hw5.symm)
          have HO2 : Hid (Blk (((w4.setCell ⟨w.heap.size + 1 + 1, 5, none⟩ (.int .i64 (I 5))).setCell ⟨w.heap.size + 1 + 1, 6, none⟩ (.int .i64 (I 6)))) (w.heap.size + 1 + 1) (insA (ofR [5, I 1, I 2, I 3, I 4, I 5, I 6, 0, 0, 0, 0, 0, 0, 0, 0, 0])) 39) := (((unhide HO).set 5 (.int .i64 (I 5))).set 6 (.int .i64 (I 6)))
          have HI2 : Hid (Blk (((w4.setCell ⟨w.heap.size + 1 + 1, 5, none⟩ (.int .i64 (I 5))).setCell ⟨w.heap.size + 1 + 1, 6, none⟩ (.int .i64 (I 6)))) (w.heap.size + 1) (insA I) 39) := (((unhide HI).other (r := w.heap.size + 1 + 1) 5 (.int .i64 (I 5)) (by omega)).other (r := w.heap.size + 1 + 1) 6 (.int .i64 (I 6)) (by omega))
          have HC2 : Hid (Blk (((w4.setCell ⟨w.heap.size + 1 + 1, 5, none⟩ (.int .i64 (I 5))).setCell ⟨w.heap.size + 1 + 1, 6, none⟩ (.int .i64 (I 6)))) w.heap.size #[.int .i64 (C).stage, .slice (some ⟨b, off, none⟩) n cap, .int .i64 (C).regs, .int .i64 (C).attr, .int .i64 (C).unif, .int .i64 (C).vary] 26) := (((unhide HC).other (r := w.heap.size + 1 + 1) 5 (.int .i64 (I 5)) (by omega)).other (r := w.heap.size + 1 + 1) 6 (.int .i64 (I 6)) (by omega))
          have HX2 : Hid (Ext w (((w4.setCell ⟨w.heap.size + 1 + 1, 5, none⟩ (.int .i64 (I 5))).setCell ⟨w.heap.size + 1 + 1, 6, none⟩ (.int .i64 (I 6))))) := (extSet (i := 6) (v := .int .i64 (I 6)) (extSet (i := 5) (v := .int .i64 (I 5)) (unhide HX) (by omega)) (by omega))
          generalize ((w4.setCell ⟨w.heap.size + 1 + 1, 5, none⟩ (.int .i64 (I 5))).setCell ⟨w.heap.size + 1 + 1, 6, none⟩ (.int .i64 (I 6))) = w6 at HO2 HI2 HC2 HX2 ⊢
          clear i0 i1 i2 i3 i4 i5 i6 i7 p0 p1 p2 p3 m0 m1 m2 m3 z0 z1 z2 z3 z4 z5 o0 o1 o2 o3 o4 o5 o6 o7 x0 x1 x2 x3 y0 y1 y2 y3 fo
          clear HO
          have HO := HO2
          clear HO2
          clear HI
          have HI := HI2
          clear HI2
          clear HC
          have HC := HC2
          clear HC2
          clear HX
          have HX := HX2
          clear HX2
          obtain ⟨i0, i1, i2, i3, i4, i5, i6, i7⟩ := cellJ (unhide HI)
          obtain ⟨p0, p1, p2, p3⟩ := cellP (unhide HI)
          obtain ⟨m0, m1, m2, m3⟩ := cellM (unhide HI)
          obtain ⟨z0, z1, z2, z3, z4, z5⟩ := cellC (unhide HC)
          obtain ⟨o0, o1, o2, o3, o4, o5, o6, o7⟩ := cellJ (unhide HO)
          obtain ⟨x0, x1, x2, x3⟩ := cellP (unhide HO)
          obtain ⟨y0, y1, y2, y3⟩ := cellM (unhide HO)
          have fo := fun j => (unhide HO).free j
          go_wp2
          go_ret
          rw [unhide E]
          exact ⟨rfl, unhide HX⟩
    · rw [decide_eq_false n1] at E
      as_aux_lemma =>
        go_upto_region 64 with (go_at_call 35; refine (refIn_any _ _ _).mono ?_; rintro e w5 ⟨rfl, hw5⟩; obtain rfl := hw5.symm)
        have HO2 : Hid (Blk (((w4.setCell ⟨w.heap.size + 1 + 1, 5, none⟩ (.int .i64 (I 5))).setCell ⟨w.heap.size + 1 + 1, 6, none⟩ (.int .i64 (I 6)))) (w.heap.size + 1 + 1) (insA (ofR [5, I 1, I 2, I 3, I 4, I 5, I 6, 0, 0, 0, 0, 0, 0, 0, 0, 0])) 39) := (((unhide HO).set 5 (.int .i64 (I 5))).set 6 (.int .i64 (I 6)))
        have HI2 : Hid (Blk (((w4.setCell ⟨w.heap.size + 1 + 1, 5, none⟩ (.int .i64 (I 5))).setCell ⟨w.heap.size + 1 + 1, 6, none⟩ (.int .i64 (I 6)))) (w.heap.size + 1) (insA I) 39) := (((unhide HI).other (r := w.heap.size + 1 + 1) 5 (.int .i64 (I 5)) (by omega)).other (r := w.heap.size + 1 + 1) 6 (.int .i64 (I 6)) (by omega))
        have HC2 : Hid (Blk (((w4.setCell ⟨w.heap.size + 1 + 1, 5, none⟩ (.int .i64 (I 5))).setCell ⟨w.heap.size + 1 + 1, 6, none⟩ (.int .i64 (I 6)))) w.heap.size #[.int .i64 (C).stage, .slice (some ⟨b, off, none⟩) n cap, .int .i64 (C).regs, .int .i64 (C).attr, .int .i64 (C).unif, .int .i64 (C).vary] 26) := (((unhide HC).other (r := w.heap.size + 1 + 1) 5 (.int .i64 (I 5)) (by omega)).other (r := w.heap.size + 1 + 1) 6 (.int .i64 (I 6)) (by omega))
        have HX2 : Hid (Ext w (((w4.setCell ⟨w.heap.size + 1 + 1, 5, none⟩ (.int .i64 (I 5))).setCell ⟨w.heap.size + 1 + 1, 6, none⟩ (.int .i64 (I 6))))) := (extSet (i := 6) (v := .int .i64 (I 6)) (extSet (i := 5) (v := .int .i64 (I 5)) (unhide HX) (by omega)) (by omega))
        generalize ((w4.setCell ⟨w.heap.size + 1 + 1, 5, none⟩ (.int .i64 (I 5))).setCell ⟨w.heap.size + 1 + 1, 6, none⟩ (.int .i64 (I 6))) = w6 at HO2 HI2 HC2 HX2 ⊢
        clear i0 i1 i2 i3 i4 i5 i6 i7 p0 p1 p2 p3 m0 m1 m2 m3 z0 z1 z2 z3 z4 z5 o0 o1 o2 o3 o4 o5 o6 o7 x0 x1 x2 x3 y0 y1 y2 y3 fo
        clear HO
        have HO := HO2
        clear HO2
        clear HI
        have HI := HI2
        clear HI2
        clear HC
        have HC := HC2
        clear HC2
        clear HX
        have HX := HX2
        clear HX2
        obtain ⟨i0, i1, i2, i3, i4, i5, i6, i7⟩ := cellJ (unhide HI)
        obtain ⟨p0, p1, p2, p3⟩ := cellP (unhide HI)
        obtain ⟨m0, m1, m2, m3⟩ := cellM (unhide HI)
        obtain ⟨z0, z1, z2, z3, z4, z5⟩ := cellC (unhide HC)
        obtain ⟨o0, o1, o2, o3, o4, o5, o6, o7⟩ := cellJ (unhide HO)
        obtain ⟨x0, x1, x2, x3⟩ := cellP (unhide HO)
        obtain ⟨y0, y1, y2, y3⟩ := cellM (unhide HO)
        have fo := fun j => (unhide HO).free j
        go_wp2
        go_ret
        rw [unhide E]
        exact ⟨rfl, unhide HX⟩
  · obtain rfl : z = 3 := hz
    go_upto_region 40 with (go_at_call 49; refine (unhide HA _).mono ?_; rintro e w5 ⟨rfl, hw5⟩; obtain rfl := hw5.symm)
    clear HA
    by_cases n1 : 1 ≤ I 3
    · rw [decide_eq_true n1] at E
      by_cases n4 : I 3 ≤ 4
      · rw [decide_eq_true n4] at E
        cases q4 : inB (I 4) C.regs
        · rw [q4] at E
          as_aux_lemma =>
            go_upto_region 64 with (go_at_call 35; refine (refIn_any _ _ _).mono ?_; rintro e w5 ⟨rfl, hw5⟩; obtain rfl := hw5.symm)
            have HO2 : Hid (Blk ((((w4.setCell ⟨w.heap.size + 1 + 1, 5, none⟩ (.int .i64 (I 5))).setCell ⟨w.heap.size + 1 + 1, 6, none⟩ (.int .i64 (I 6))).setCell ⟨w.heap.size + 1 + 1, 7, none⟩ (.int .i64 (I 7)))) (w.heap.size + 1 + 1) (insA (ofR [5, I 1, I 2, I 3, I 4, I 5, I 6, I 7, 0, 0, 0, 0, 0, 0, 0, 0])) 39) := ((((unhide HO).set 5 (.int .i64 (I 5))).set 6 (.int .i64 (I 6))).set 7 (.int .i64 (I 7)))
            have HI2 : Hid (Blk ((((w4.setCell ⟨w.heap.size + 1 + 1, 5, none⟩ (.int .i64 (I 5))).setCell ⟨w.heap.size + 1 + 1, 6, none⟩ (.int .i64 (I 6))).setCell ⟨w.heap.size + 1 + 1, 7, none⟩ (.int .i64 (I 7)))) (w.heap.size + 1) (insA I) 39) := ((((unhide HI).other (r := w.heap.size + 1 + 1) 5 (.int .i64 (I 5)) (by omega)).other (r := w.heap.size + 1 + 1) 6 (.int .i64 (I 6)) (by omega)).other (r := w.heap.size + 1 + 1) 7 (.int .i64 (I 7)) (by omega))
            have HC2 : Hid (Blk ((((w4.setCell ⟨w.heap.size + 1 + 1, 5, none⟩ (.int .i64 (I 5))).setCell ⟨w.heap.size + 1 + 1, 6, none⟩ (.int .i64 (I 6))).setCell ⟨w.heap.size + 1 + 1, 7, none⟩ (.int .i64 (I 7)))) w.heap.size #[.int .i64 (C).stage, .slice (some ⟨b, off, none⟩) n cap, .int .i64 (C).regs, .int .i64 (C).attr, .int .i64 (C).unif, .int .i64 (C).vary] 26) := ((((unhide HC).other (r := w.heap.size + 1 + 1) 5 (.int .i64 (I 5)) (by omega)).other (r := w.heap.size + 1 + 1) 6 (.int .i64 (I 6)) (by omega)).other (r := w.heap.size + 1 + 1) 7 (.int .i64 (I 7)) (by omega))
            have HX2 : Hid (Ext w ((((w4.setCell ⟨w.heap.size + 1 + 1, 5, none⟩ (.int .i64 (I 5))).setCell ⟨w.heap.size + 1 + 1, 6, none⟩ (.int .i64 (I 6))).setCell ⟨w.heap.size + 1 + 1, 7, none⟩ (.int .i64 (I 7))))) := (extSet (i := 7) (v := .int .i64 (I 7)) (extSet (i := 6) (v := .int .i64 (I 6)) (extSet (i := 5) (v := .int .i64 (I 5)) (unhide HX) (by omega)) (by omega)) (by omega))
            generalize (((w4.setCell ⟨w.heap.size + 1 + 1, 5, none⟩ (.int .i64 (I 5))).setCell ⟨w.heap.size + 1 + 1, 6, none⟩ (.int .i64 (I 6))).setCell ⟨w.heap.size + 1 + 1, 7, none⟩ (.int .i64 (I 7))) = w6 at HO2 HI2 HC2 HX2 ⊢
            clear i0 i1 i2 i3 i4 i5 i6 i7 p0 p1 p2 p3 m0 m1 m2 m3 z0 z1 z2 z3 z4 z5 o0 o1 o2 o3 o4 o5 o6 o7 x0 x1 x2 x3 y0 y1 y2 y3 fo
            clear HO
            have HO := HO2
            clear HO2
            clear HI
            have HI := HI2
            clear HI2
            clear HC
            have HC := HC2
            clear HC2
            clear HX
            have HX := HX2
            clear HX2
            obtain ⟨i0, i1, i2, i3, i4, i5, i6, i7⟩ := cellJ (unhide HI)
            obtain ⟨p0, p1, p2, p3⟩ := cellP (unhide HI)
            obtain ⟨m0, m1, m2, m3⟩ := cellM (unhide HI)
            obtain ⟨z0, z1, z2, z3, z4, z5⟩ := cellC (unhide HC)
            obtain ⟨o0, o1, o2, o3, o4, o5, o6, o7⟩ := cellJ (unhide HO)
            obtain ⟨x0, x1, x2, x3⟩ := cellP (unhide HO)
            obtain ⟨y0, y1, y2, y3⟩ := cellM (unhide HO)
            have fo := fun j => (unhide HO).free j
            go_wp2
            go_ret
            rw [unhide E]
            exact ⟨rfl, unhide HX⟩
        · rw [q4] at E
          cases q5 : inB (I 5) C.regs
          · rw [q5] at E
            as_aux_lemma =>
              go_upto_region 64 with (go_at_call 35; refine (refIn_any _ _ _).mono ?_; rintro e w5 ⟨rfl, hw5⟩; obtain rfl := hw5.symm)
              have HO2 : Hid (Blk ((((w4.setCell ⟨w.heap.size + 1 + 1, 5, none⟩ (.int .i64 (I 5))).setCell ⟨w.heap.size + 1 + 1, 6, none⟩ (.int .i64 (I 6))).setCell ⟨w.heap.size + 1 + 1, 7, none⟩ (.int .i64 (I 7)))) (w.heap.size + 1 + 1) (insA (ofR [5, I 1, I 2, I 3, I 4, I 5, I 6, I 7, 0, 0, 0, 0, 0, 0, 0, 0])) 39) := ((((unhide HO).set 5 (.int .i64 (I 5))).set 6 (.int .i64 (I 6))).set 7 (.int .i64 (I 7)))
              have HI2 : Hid (Blk ((((w4.setCell ⟨w.heap.size + 1 + 1, 5, none⟩ (.int .i64 (I 5))).setCell ⟨w.heap.size + 1 + 1, 6, none⟩ (.int .i64 (I 6))).setCell ⟨w.heap.size + 1 + 1, 7, none⟩ (.int .i64 (I 7)))) (w.heap.size + 1) (insA I) 39) := ((((unhide HI).other (r := w.heap.size + 1 + 1) 5 (.int .i64 (I 5)) (by omega)).other (r := w.heap.size + 1 + 1) 6 (.int .i64 (I 6)) (by omega)).other (r := w.heap.size + 1 + 1) 7 (.int .i64 (I 7)) (by omega))
              have HC2 : Hid (Blk ((((w4.setCell ⟨w.heap.size + 1 + 1, 5, none⟩ (.int .i64 (I 5))).setCell ⟨w.heap.size + 1 + 1, 6, none⟩ (.int .i64 (I 6))).setCell ⟨w.heap.size + 1 + 1, 7, none⟩ (.int .i64 (I 7)))) w.heap.size #[.int .i64 (C).stage, .slice (some ⟨b, off, none⟩) n cap, .int .i64 (C).regs, .int .i64 (C).attr, .int .i64 (C).unif, .int .i64 (C).vary] 26) := ((((unhide HC).other (r := w.heap.size + 1 + 1) 5 (.int .i64 (I 5)) (by omega)).other (r := w.heap.size + 1 + 1) 6 (.int .i64 (I 6)) (by omega)).other (r := w.heap.size + 1 + 1) 7 (.int .i64 (I 7)) (by omega))
              have HX2 : Hid (Ext w ((((w4.setCell ⟨w.heap.size + 1 + 1, 5, none⟩ (.int .i64 (I 5))).setCell ⟨w.heap.size + 1 + 1, 6, none⟩ (.int .i64 (I 6))).setCell ⟨w.heap.size + 1 + 1, 7, none⟩ (.int .i64 (I 7))))) := (extSet (i := 7) (v := .int .i64 (I 7)) (extSet (i := 6) (v := .int .i64 (I 6)) (extSet (i := 5) (v := .int .i64 (I 5)) (unhide HX) (by omega)) (by omega)) (by omega))
              generalize (((w4.setCell ⟨w.heap.size + 1 + 1, 5, none⟩ (.int .i64 (I 5))).setCell ⟨w.heap.size + 1 + 1, 6, none⟩ (.int .i64 (I 6))).setCell ⟨w.heap.size + 1 + 1, 7, none⟩ (.int .i64 (I 7))) = w6 at HO2 HI2 HC2 HX2 ⊢
              clear i0 i1 i2 i3 i4 i5 i6 i7 p0 p1 p2 p3 m0 m1 m2 m3 z0 z1 z2 z3 z4 z5 o0 o1 o2 o3 o4 o5 o6 o7 x0 x1 x2 x3 y0 y1 y2 y3 fo
              clear HO
              have HO := HO2
              clear HO2
              clear HI
              have HI := HI2
              clear HI2
              clear HC
              have HC := HC2
              clear HC2
              clear HX
              have HX := HX2
              clear HX2
              obtain ⟨i0, i1, i2, i3, i4, i5, i6, i7⟩ := cellJ (unhide HI)
              obtain ⟨p0, p1, p2, p3⟩ := cellP (unhide HI)
              obtain ⟨m0, m1, m2, m3⟩ := cellM (unhide HI)
              obtain ⟨z0, z1, z2, z3, z4, z5⟩ := cellC (unhide HC)
              obtain ⟨o0, o1, o2, o3, o4, o5, o6, o7⟩ := cellJ (unhide HO)
              obtain ⟨x0, x1, x2, x3⟩ := cellP (unhide HO)
              obtain ⟨y0, y1, y2, y3⟩ := cellM (unhide HO)
              have fo := fun j => (unhide HO).free j
              go_wp2
              go_ret
              rw [unhide E]
              exact ⟨rfl, unhide HX⟩
          · rw [q5] at E
            cases q6 : inB (I 6) C.regs
            · rw [q6] at E
              as_aux_lemma =>
                go_upto_region 64 with (go_at_call 35; refine (refIn_any _ _ _).mono ?_; rintro e w5 ⟨rfl, hw5⟩; obtain rfl := hw5.symm)
                have HO2 : Hid (Blk ((((w4.setCell ⟨w.heap.size + 1 + 1, 5, none⟩ (.int .i64 (I 5))).setCell ⟨w.heap.size + 1 + 1, 6, none⟩ (.int .i64 (I 6))).setCell ⟨w.heap.size + 1 + 1, 7, none⟩ (.int .i64 (I 7)))) (w.heap.size + 1 + 1) (insA (ofR [5, I 1, I 2, I 3, I 4, I 5, I 6, I 7, 0, 0, 0, 0, 0, 0, 0, 0])) 39) := ((((unhide HO).set 5 (.int .i64 (I 5))).set 6 (.int .i64 (I 6))).set 7 (.int .i64 (I 7)))
                have HI2 : Hid (Blk ((((w4.setCell ⟨w.heap.size + 1 + 1, 5, none⟩ (.int .i64 (I 5))).setCell ⟨w.heap.size + 1 + 1, 6, none⟩ (.int .i64 (I 6))).setCell ⟨w.heap.size + 1 + 1, 7, none⟩ (.int .i64 (I 7)))) (w.heap.size + 1) (insA I) 39) := ((((unhide HI).other (r := w.heap.size + 1 + 1) 5 (.int .i64 (I 5)) (by omega)).other (r := w.heap.size + 1 + 1) 6 (.int .i64 (I 6)) (by omega)).other (r := w.heap.size + 1 + 1) 7 (.int .i64 (I 7)) (by omega))
                have HC2 : Hid (Blk ((((w4.setCell ⟨w.heap.size + 1 + 1, 5, none⟩ (.int .i64 (I 5))).setCell ⟨w.heap.size + 1 + 1, 6, none⟩ (.int .i64 (I 6))).setCell ⟨w.heap.size + 1 + 1, 7, none⟩ (.int .i64 (I 7)))) w.heap.size #[.int .i64 (C).stage, .slice (some ⟨b, off, none⟩) n cap, .int .i64 (C).regs, .int .i64 (C).attr, .int .i64 (C).unif, .int .i64 (C).vary] 26) := ((((unhide HC).other (r := w.heap.size + 1 + 1) 5 (.int .i64 (I 5)) (by omega)).other (r := w.heap.size + 1 + 1) 6 (.int .i64 (I 6)) (by omega)).other (r := w.heap.size + 1 + 1) 7 (.int .i64 (I 7)) (by omega))
                have HX2 : Hid (Ext w ((((w4.setCell ⟨w.heap.size + 1 + 1, 5, none⟩ (.int .i64 (I 5))).setCell ⟨w.heap.size + 1 + 1, 6, none⟩ (.int .i64 (I 6))).setCell ⟨w.heap.size + 1 + 1, 7, none⟩ (.int .i64 (I 7))))) := (extSet (i := 7) (v := .int .i64 (I 7)) (extSet (i := 6) (v := .int .i64 (I 6)) (extSet (i := 5) (v := .int .i64 (I 5)) (unhide HX) (by omega)) (by omega)) (by omega))
                generalize (((w4.setCell ⟨w.heap.size + 1 + 1, 5, none⟩ (.int .i64 (I 5))).setCell ⟨w.heap.size + 1 + 1, 6, none⟩ (.int .i64 (I 6))).setCell ⟨w.heap.size + 1 + 1, 7, none⟩ (.int .i64 (I 7))) = w6 at HO2 HI2 HC2 HX2 ⊢
                clear i0 i1 i2 i3 i4 i5 i6 i7 p0 p1 p2 p3 m0 m1 m2 m3 z0 z1 z2 z3 z4 z5 o0 o1 o2 o3 o4 o5 o6 o7 x0 x1 x2 x3 y0 y1 y2 y3 fo
                clear HO
                have HO := HO2
                clear HO2
                clear HI
                have HI := HI2
                clear HI2
                clear HC
                have HC := HC2
                clear HC2
                clear HX
                have HX := HX2
                clear HX2
                obtain ⟨i0, i1, i2, i3, i4, i5, i6, i7⟩ := cellJ (unhide HI)
                obtain ⟨p0, p1, p2, p3⟩ := cellP (unhide HI)
                obtain ⟨m0, m1, m2, m3⟩ := cellM (unhide HI)
                obtain ⟨z0, z1, z2, z3, z4, z5⟩ := cellC (unhide HC)
                obtain ⟨o0, o1, o2, o3, o4, o5, o6, o7⟩ := cellJ (unhide HO)
                obtain ⟨x0, x1, x2, x3⟩ := cellP (unhide HO)
                obtain ⟨y0, y1, y2, y3⟩ := cellM (unhide HO)
                have fo := fun j => (unhide HO).free j
                go_wp2
                go_ret
                rw [unhide E]
                exact ⟨rfl, unhide HX⟩
            · rw [q6] at E
              cases q7 : inB (I 7) C.regs
              · rw [q7] at E
                as_aux_lemma =>
                  go_upto_region 64 with (go_at_call 35; refine (refIn_any _ _ _).mono ?_; rintro e w5 ⟨rfl, hw5⟩; obtain rfl := hw5.symm)
                  have HO2 : Hid (Blk ((((w4.setCell ⟨w.heap.size + 1 + 1, 5, none⟩ (.int .i64 (I 5))).setCell ⟨w.heap.size + 1 + 1, 6, none⟩ (.int .i64 (I 6))).setCell ⟨w.heap.size + 1 + 1, 7, none⟩ (.int .i64 (I 7)))) (w.heap.size + 1 + 1) (insA (ofR [5, I 1, I 2, I 3, I 4, I 5, I 6, I 7, 0, 0, 0, 0, 0, 0, 0, 0])) 39) := ((((unhide HO).set 5 (.int .i64 (I 5))).set 6 (.int .i64 (I 6))).set 7 (.int .i64 (I 7)))
                  have HI2 : Hid (Blk ((((w4.setCell ⟨w.heap.size + 1 + 1, 5, none⟩ (.int .i64 (I 5))).setCell ⟨w.heap.size + 1 + 1, 6, none⟩ (.int .i64 (I 6))).setCell ⟨w.heap.size + 1 + 1, 7, none⟩ (.int .i64 (I 7)))) (w.heap.size + 1) (insA I) 39) := ((((unhide HI).other (r := w.heap.size + 1 + 1) 5 (.int .i64 (I 5)) (by omega)).other (r := w.heap.size + 1 + 1) 6 (.int .i64 (I 6)) (by omega)).other (r := w.heap.size + 1 + 1) 7 (.int .i64 (I 7)) (by omega))
                  have HC2 : Hid (Blk ((((w4.setCell ⟨w.heap.size + 1 + 1, 5, none⟩ (.int .i64 (I 5))).setCell ⟨w.heap.size + 1 + 1, 6, none⟩ (.int .i64 (I 6))).setCell ⟨w.heap.size + 1 + 1, 7, none⟩ (.int .i64 (I 7)))) w.heap.size #[.int .i64 (C).stage, .slice (some ⟨b, off, none⟩) n cap, .int .i64 (C).regs, .int .i64 (C).attr, .int .i64 (C).unif, .int .i64 (C).vary] 26) := ((((unhide HC).other (r := w.heap.size + 1 + 1) 5 (.int .i64 (I 5)) (by omega)).other (r := w.heap.size + 1 + 1) 6 (.int .i64 (I 6)) (by omega)).other (r := w.heap.size + 1 + 1) 7 (.int .i64 (I 7)) (by omega))
                  have HX2 : Hid (Ext w ((((w4.setCell ⟨w.heap.size + 1 + 1, 5, none⟩ (.int .i64 (I 5))).setCell ⟨w.heap.size + 1 + 1, 6, none⟩ (.int .i64 (I 6))).setCell ⟨w.heap.size + 1 + 1, 7, none⟩ (.int .i64 (I 7))))) := (extSet (i := 7) (v := .int .i64 (I 7)) (extSet (i := 6) (v := .int .i64 (I 6)) (extSet (i := 5) (v := .int .i64 (I 5)) (unhide HX) (by omega)) (by omega)) (by omega))
                  generalize (((w4.setCell ⟨w.heap.size + 1 + 1, 5, none⟩ (.int .i64 (I 5))).setCell ⟨w.heap.size + 1 + 1, 6, none⟩ (.int .i64 (I 6))).setCell ⟨w.heap.size + 1 + 1, 7, none⟩ (.int .i64 (I 7))) = w6 at HO2 HI2 HC2 HX2 ⊢
                  clear i0 i1 i2 i3 i4 i5 i6 i7 p0 p1 p2 p3 m0 m1 m2 m3 z0 z1 z2 z3 z4 z5 o0 o1 o2 o3 o4 o5 o6 o7 x0 x1 x2 x3 y0 y1 y2 y3 fo
                  clear HO
                  have HO := HO2
                  clear HO2
                  clear HI
                  have HI := HI2
                  clear HI2
                  clear HC
                  have HC := HC2
                  clear HC2
                  clear HX
                  have HX := HX2
                  clear HX2
                  obtain ⟨i0, i1, i2, i3, i4, i5, i6, i7⟩ := cellJ (unhide HI)
                  obtain ⟨p0, p1, p2, p3⟩ := cellP (unhide HI)
                  obtain ⟨m0, m1, m2, m3⟩ := cellM (unhide HI)
                  obtain ⟨z0, z1, z2, z3, z4, z5⟩ := cellC (unhide HC)
                  obtain ⟨o0, o1, o2, o3, o4, o5, o6, o7⟩ := cellJ (unhide HO)
                  obtain ⟨x0, x1, x2, x3⟩ := cellP (unhide HO)
                  obtain ⟨y0, y1, y2, y3⟩ := cellM (unhide HO)
                  have fo := fun j => (unhide HO).free j
                  go_wp2
                  go_ret
                  rw [unhide E]
                  exact ⟨rfl, unhide HX⟩
              · rw [q7] at E
                as_aux_lemma =>
                  go_upto_region 64 with (go_at_call 35; refine (refIn_any _ _ _).mono ?_; rintro e w5 ⟨rfl, hw5⟩; obtain rfl := hw5.symm)
                  have HO2 : Hid (Blk ((((w4.setCell ⟨w.heap.size + 1 + 1, 5, none⟩ (.int .i64 (I 5))).setCell ⟨w.heap.size + 1 + 1, 6, none⟩ (.int .i64 (I 6))).setCell ⟨w.heap.size + 1 + 1, 7, none⟩ (.int .i64 (I 7)))) (w.heap.size + 1 + 1) (insA (ofR [5, I 1, I 2, I 3, I 4, I 5, I 6, I 7, 0, 0, 0, 0, 0, 0, 0, 0])) 39) := ((((unhide HO).set 5 (.int .i64 (I 5))).set 6 (.int .i64 (I 6))).set 7 (.int .i64 (I 7)))
                  have HI2 : Hid (Blk ((((w4.setCell ⟨w.heap.size + 1 + 1, 5, none⟩ (.int .i64 (I 5))).setCell ⟨w.heap.size + 1 + 1, 6, none⟩ (.int .i64 (I 6))).setCell ⟨w.heap.size + 1 + 1, 7, none⟩ (.int .i64 (I 7)))) (w.heap.size + 1) (insA I) 39) := ((((unhide HI).other (r := w.heap.size + 1 + 1) 5 (.int .i64 (I 5)) (by omega)).other (r := w.heap.size + 1 + 1) 6 (.int .i64 (I 6)) (by omega)).other (r := w.heap.size + 1 + 1) 7 (.int .i64 (I 7)) (by omega))
                  have HC2 : Hid (Blk ((((w4.setCell ⟨w.heap.size + 1 + 1, 5, none⟩ (.int .i64 (I 5))).setCell ⟨w.heap.size + 1 + 1, 6, none⟩ (.int .i64 (I 6))).setCell ⟨w.heap.size + 1 + 1, 7, none⟩ (.int .i64 (I 7)))) w.heap.size #[.int .i64 (C).stage, .slice (some ⟨b, off, none⟩) n cap, .int .i64 (C).regs, .int .i64 (C).attr, .int .i64 (C).unif, .int .i64 (C).vary] 26) := ((((unhide HC).other (r := w.heap.size + 1 + 1) 5 (.int .i64 (I 5)) (by omega)).other (r := w.heap.size + 1 + 1) 6 (.int .i64 (I 6)) (by omega)).other (r := w.heap.size + 1 + 1) 7 (.int .i64 (I 7)) (by omega))
                  have HX2 : Hid (Ext w ((((w4.setCell ⟨w.heap.size + 1 + 1, 5, none⟩ (.int .i64 (I 5))).setCell ⟨w.heap.size + 1 + 1, 6, none⟩ (.int .i64 (I 6))).setCell ⟨w.heap.size + 1 + 1, 7, none⟩ (.int .i64 (I 7))))) := (extSet (i := 7) (v := .int .i64 (I 7)) (extSet (i := 6) (v := .int .i64 (I 6)) (extSet (i := 5) (v := .int .i64 (I 5)) (unhide HX) (by omega)) (by omega)) (by omega))
                  generalize (((w4.setCell ⟨w.heap.size + 1 + 1, 5, none⟩ (.int .i64 (I 5))).setCell ⟨w.heap.size + 1 + 1, 6, none⟩ (.int .i64 (I 6))).setCell ⟨w.heap.size + 1 + 1, 7, none⟩ (.int .i64 (I 7))) = w6 at HO2 HI2 HC2 HX2 ⊢
                  clear i0 i1 i2 i3 i4 i5 i6 i7 p0 p1 p2 p3 m0 m1 m2 m3 z0 z1 z2 z3 z4 z5 o0 o1 o2 o3 o4 o5 o6 o7 x0 x1 x2 x3 y0 y1 y2 y3 fo
                  clear HO
                  have HO := HO2
                  clear HO2
                  clear HI
                  have HI := HI2
                  clear HI2
                  clear HC
                  have HC := HC2
                  clear HC2
                  clear HX
                  have HX := HX2
                  clear HX2
                  obtain ⟨i0, i1, i2, i3, i4, i5, i6, i7⟩ := cellJ (unhide HI)
                  obtain ⟨p0, p1, p2, p3⟩ := cellP (unhide HI)
                  obtain ⟨m0, m1, m2, m3⟩ := cellM (unhide HI)
                  obtain ⟨z0, z1, z2, z3, z4, z5⟩ := cellC (unhide HC)
                  obtain ⟨o0, o1, o2, o3, o4, o5, o6, o7⟩ := cellJ (unhide HO)
                  obtain ⟨x0, x1, x2, x3⟩ := cellP (unhide HO)
                  obtain ⟨y0, y1, y2, y3⟩ := cellM (unhide HO)
                  have fo := fun j => (unhide HO).free j
                  go_wp2_with (first
                    | refine wpList_load_row_wantR rfl 39 (.tmp 7) rfl (w.heap.size + 1 + 1) rfl 39 _ (0, 0) _ (unhide HO) Try.underlying39 rfl size16 ?_
                    | refine wpList_load_row_wantR rfl 39 (.tmp 5) rfl (w.heap.size + 1) rfl 39 (insA I) (0, 0) _ (unhide HI) Try.underlying39 rfl size16 ?_
                    | refine wpList_eq_wantR rfl (.tmp 408) (.tmp 409) 39 39 _ _ _ rfl rfl rfl grdI (eqI _ _ _) ?_)
                  go_ret
                  rw [unhide E]
                  exact ⟨rfl, unhide HX⟩
      · rw [decide_eq_false n4] at E
        as_aux_lemma =>
          go_upto_region 64 with (go_at_call 35; refine (refIn_any _ _ _).mono ?_; rintro e w5 ⟨rfl, hw5⟩; obtain rfl := hw5.symm)
          have HO2 : Hid (Blk ((((w4.setCell ⟨w.heap.size + 1 + 1, 5, none⟩ (.int .i64 (I 5))).setCell ⟨w.heap.size + 1 + 1, 6, none⟩ (.int .i64 (I 6))).setCell ⟨w.heap.size + 1 + 1, 7, none⟩ (.int .i64 (I 7)))) (w.heap.size + 1 + 1) (insA (ofR [5, I 1, I 2, I 3, I 4, I 5, I 6, I 7, 0, 0, 0, 0, 0, 0, 0, 0])) 39) := ((((unhide HO).set 5 (.int .i64 (I 5))).set 6 (.int .i64 (I 6))).set 7 (.int .i64 (I 7)))
          have HI2 : Hid (Blk ((((w4.setCell ⟨w.heap.size + 1 + 1, 5, none⟩ (.int .i64 (I 5))).setCell ⟨w.heap.size + 1 + 1, 6, none⟩ (.int .i64 (I 6))).setCell ⟨w.heap.size + 1 + 1, 7, none⟩ (.int .i64 (I 7)))) (w.heap.size + 1) (insA I) 39) := ((((unhide HI).other (r := w.heap.size + 1 + 1) 5 (.int .i64 (I 5)) (by omega)).other (r := w.heap.size + 1 + 1) 6 (.int .i64 (I 6)) (by omega)).other (r := w.heap.size + 1 + 1) 7 (.int .i64 (I 7)) (by omega))
          have HC2 : Hid (Blk ((((w4.setCell ⟨w.heap.size + 1 + 1, 5, none⟩ (.int .i64 (I 5))).setCell ⟨w.heap.size + 1 + 1, 6, none⟩ (.int .i64 (I 6))).setCell ⟨w.heap.size + 1 + 1, 7, none⟩ (.int .i64 (I 7)))) w.heap.size #[.int .i64 (C).stage, .slice (some ⟨b, off, none⟩) n cap, .int .i64 (C).regs, .int .i64 (C).attr, .int .i64 (C).unif, .int .i64 (C).vary] 26) := ((((unhide HC).other (r := w.heap.size + 1 + 1) 5 (.int .i64 (I 5)) (by omega)).other (r := w.heap.size + 1 + 1) 6 (.int .i64 (I 6)) (by omega)).other (r := w.heap.size + 1 + 1) 7 (.int .i64 (I 7)) (by omega))
          have HX2 : Hid (Ext w ((((w4.setCell ⟨w.heap.size + 1 + 1, 5, none⟩ (.int .i64 (I 5))).setCell ⟨w.heap.size + 1 + 1, 6, none⟩ (.int .i64 (I 6))).setCell ⟨w.heap.size + 1 + 1, 7, none⟩ (.int .i64 (I 7))))) := (extSet (i := 7) (v := .int .i64 (I 7)) (extSet (i := 6) (v := .int .i64 (I 6)) (extSet (i := 5) (v := .int .i64 (I 5)) (unhide HX) (by omega)) (by omega)) (by omega))
          generalize (((w4.setCell ⟨w.heap.size + 1 + 1, 5, none⟩ (.int .i64 (I 5))).setCell ⟨w.heap.size + 1 + 1, 6, none⟩ (.int .i64 (I 6))).setCell ⟨w.heap.size + 1 + 1, 7, none⟩ (.int .i64 (I 7))) = w6 at HO2 HI2 HC2 HX2 ⊢
          clear i0 i1 i2 i3 i4 i5 i6 i7 p0 p1 p2 p3 m0 m1 m2 m3 z0 z1 z2 z3 z4 z5 o0 o1 o2 o3 o4 o5 o6 o7 x0 x1 x2 x3 y0 y1 y2 y3 fo
          clear HO
          have HO := HO2
          clear HO2
          clear HI
          have HI := HI2
          clear HI2
          clear HC
          have HC := HC2
          clear HC2
          clear HX
          have HX := HX2
          clear HX2
          obtain ⟨i0, i1, i2, i3, i4, i5, i6, i7⟩ := cellJ (unhide HI)
          obtain ⟨p0, p1, p2, p3⟩ := cellP (unhide HI)
          obtain ⟨m0, m1, m2, m3⟩ := cellM (unhide HI)
          obtain ⟨z0, z1, z2, z3, z4, z5⟩ := cellC (unhide HC)
          obtain ⟨o0, o1, o2, o3, o4, o5, o6, o7⟩ := cellJ (unhide HO)
          obtain ⟨x0, x1, x2, x3⟩ := cellP (unhide HO)
          obtain ⟨y0, y1, y2, y3⟩ := cellM (unhide HO)
          have fo := fun j => (unhide HO).free j
          go_wp2
          go_ret
          rw [unhide E]
          exact ⟨rfl, unhide HX⟩
    · rw [decide_eq_false n1] at E
      as_aux_lemma =>
        go_upto_region 64 with (go_at_call 35; refine (refIn_any _ _ _).mono ?_; rintro e w5 ⟨rfl, hw5⟩; obtain rfl := hw5.symm)
        have HO2 : Hid (Blk ((((w4.setCell ⟨w.heap.size + 1 + 1, 5, none⟩ (.int .i64 (I 5))).setCell ⟨w.heap.size + 1 + 1, 6, none⟩ (.int .i64 (I 6))).setCell ⟨w.heap.size + 1 + 1, 7, none⟩ (.int .i64 (I 7)))) (w.heap.size + 1 + 1) (insA (ofR [5, I 1, I 2, I 3, I 4, I 5, I 6, I 7, 0, 0, 0, 0, 0, 0, 0, 0])) 39) := ((((unhide HO).set 5 (.int .i64 (I 5))).set 6 (.int .i64 (I 6))).set 7 (.int .i64 (I 7)))
        have HI2 : Hid (Blk ((((w4.setCell ⟨w.heap.size + 1 + 1, 5, none⟩ (.int .i64 (I 5))).setCell ⟨w.heap.size + 1 + 1, 6, none⟩ (.int .i64 (I 6))).setCell ⟨w.heap.size + 1 + 1, 7, none⟩ (.int .i64 (I 7)))) (w.heap.size + 1) (insA I) 39) := ((((unhide HI).other (r := w.heap.size + 1 + 1) 5 (.int .i64 (I 5)) (by omega)).other (r := w.heap.size + 1 + 1) 6 (.int .i64 (I 6)) (by omega)).other (r := w.heap.size + 1 + 1) 7 (.int .i64 (I 7)) (by omega))
        have HC2 : Hid (Blk ((((w4.setCell ⟨w.heap.size + 1 + 1, 5, none⟩ (.int .i64 (I 5))).setCell ⟨w.heap.size + 1 + 1, 6, none⟩ (.int .i64 (I 6))).setCell ⟨w.heap.size + 1 + 1, 7, none⟩ (.int .i64 (I 7)))) w.heap.size #[.int .i64 (C).stage, .slice (some ⟨b, off, none⟩) n cap, .int .i64 (C).regs, .int .i64 (C).attr, .int .i64 (C).unif, .int .i64 (C).vary] 26) := ((((unhide HC).other (r := w.heap.size + 1 + 1) 5 (.int .i64 (I 5)) (by omega)).other (r := w.heap.size + 1 + 1) 6 (.int .i64 (I 6)) (by omega)).other (r := w.heap.size + 1 + 1) 7 (.int .i64 (I 7)) (by omega))
        have HX2 : Hid (Ext w ((((w4.setCell ⟨w.heap.size + 1 + 1, 5, none⟩ (.int .i64 (I 5))).setCell ⟨w.heap.size + 1 + 1, 6, none⟩ (.int .i64 (I 6))).setCell ⟨w.heap.size + 1 + 1, 7, none⟩ (.int .i64 (I 7))))) := (extSet (i := 7) (v := .int .i64 (I 7)) (extSet (i := 6) (v := .int .i64 (I 6)) (extSet (i := 5) (v := .int .i64 (I 5)) (unhide HX) (by omega)) (by omega)) (by omega))
        generalize (((w4.setCell ⟨w.heap.size + 1 + 1, 5, none⟩ (.int .i64 (I 5))).setCell ⟨w.heap.size + 1 + 1, 6, none⟩ (.int .i64 (I 6))).setCell ⟨w.heap.size + 1 + 1, 7, none⟩ (.int .i64 (I 7))) = w6 at HO2 HI2 HC2 HX2 ⊢
        clear i0 i1 i2 i3 i4 i5 i6 i7 p0 p1 p2 p3 m0 m1 m2 m3 z0 z1 z2 z3 z4 z5 o0 o1 o2 o3 o4 o5 o6 o7 x0 x1 x2 x3 y0 y1 y2 y3 fo
        clear HO
        have HO := HO2
        clear HO2
        clear HI
        have HI := HI2
        clear HI2
        clear HC
        have HC := HC2
        clear HC2
        clear HX
        have HX := HX2
        clear HX2
        obtain ⟨i0, i1, i2, i3, i4, i5, i6, i7⟩ := cellJ (unhide HI)
        obtain ⟨p0, p1, p2, p3⟩ := cellP (unhide HI)
        obtain ⟨m0, m1, m2, m3⟩ := cellM (unhide HI)
        obtain ⟨z0, z1, z2, z3, z4, z5⟩ := cellC (unhide HC)
        obtain ⟨o0, o1, o2, o3, o4, o5, o6, o7⟩ := cellJ (unhide HO)
        obtain ⟨x0, x1, x2, x3⟩ := cellP (unhide HO)
        obtain ⟨y0, y1, y2, y3⟩ := cellM (unhide HO)
        have fo := fun j => (unhide HO).free j
        go_wp2
        go_ret
        rw [unhide E]
        exact ⟨rfl, unhide HX⟩
end Go.Proofs.Ytfoffnbkfnbglaa
