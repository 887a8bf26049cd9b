/-
  Codes: the walk of fieldsMayBe, Op by Op (7). What the dump lacks is left out.
-/
import Derived.Test.YtglfhmlcmffoaaaGreatCHJ
import Derived.Deep.Cut
namespace Go.Proofs.YtglfhmlcmffoaaaGreat
open Go.RowKit
set_option linter.unusedVariables false
set_option linter.unusedSimpArgs false

set_option maxRecDepth 10000 in
set_option maxHeartbeats 4000000 in
theorem fld_7 (C : Cod) (v : Value) (L : List (Nat → Int)) (k : Nat) (w : World) (h : IR w v L) (hk : k < L.length) (h0 : L[k] 0 = 7) : Calls Tryz.prog 98 #[.agg #[.int .i64 (C).stage, v, .int .i64 (C).regs, .int .i64 (C).attr, .int .i64 (C).unif, .int .i64 (C).vary], .int .i64 (k : Int)] w fun e w' => e = .returned (.bool (fldB C L.length k L[k])) ∧ Ext w w' := by
  obtain ⟨ao, cap, rfl, hn0, hlc, hcm, hat⟩ := h
  obtain ⟨b, off, rfl, hrg⟩ := hat k hk
  have E : Hid (fldB C L.length k L[k] = (cntB (L[k] 3) && (plcB L[k] && !twB ((plcs L[k]).take (L[k] 3).toNat)))) := by
    simp [Hid, fldB, h0]
  rw [unhide E]
  clear E hat hn0
  generalize L[k] = I at *
  generalize L.length = n at *
  unfold maxLen at hcm
  have HI : Hid (Blk ((w.alloc (.cells #[.int .i64 (C).stage, .slice (some ⟨b, off, none⟩) n cap, .int .i64 (C).regs, .int .i64 (C).attr, .int .i64 (C).unif, .int .i64 (C).vary] 24)).alloc (.cells (insA I) 59)) (w.heap.size + 1) (insA I) 59) := Blk.here (by simp)
  have HC : Hid (Blk ((w.alloc (.cells #[.int .i64 (C).stage, .slice (some ⟨b, off, none⟩) n cap, .int .i64 (C).regs, .int .i64 (C).attr, .int .i64 (C).unif, .int .i64 (C).vary] 24)).alloc (.cells (insA I) 59)) w.heap.size #[.int .i64 (C).stage, .slice (some ⟨b, off, none⟩) n cap, .int .i64 (C).regs, .int .i64 (C).attr, .int .i64 (C).unif, .int .i64 (C).vary] 24) := (Blk.new w _ _).alloc _
  have HX := hide (((Ext.refl w).alloc (.cells #[.int .i64 (C).stage, .slice (some ⟨b, off, none⟩) n cap, .int .i64 (C).regs, .int .i64 (C).attr, .int .i64 (C).unif, .int .i64 (C).vary] 24)).alloc (.cells (insA I) 59))
  have HRG := hide (rng_ext hrg ((Ext.refl w).alloc (.cells #[.int .i64 (C).stage, .slice (some ⟨b, off, none⟩) n cap, .int .i64 (C).regs, .int .i64 (C).attr, .int .i64 (C).unif, .int .i64 (C).vary] 24)))
  obtain ⟨i0, i1, i2, i3, i4, i5, i6, i7⟩ := cellJ (unhide HI)
  obtain ⟨p0, p1, p2, p3⟩ := cellP (unhide HI)
  obtain ⟨z0, z1, z2, z3, z4, z5⟩ := cellC (unhide HC)
  have hkn : (k : Int) < (n : Int) := by omega
  clear hrg z2 z3 z4 z5
  rw [h0] at i0
  clear h0
  have HPR : Hid (((w.alloc (.cells #[.int .i64 (C).stage, .slice (some ⟨b, off, none⟩) n cap, .int .i64 (C).regs, .int .i64 (C).attr, .int .i64 (C).unif, .int .i64 (C).vary] 24)).alloc (.cells (insA I) 59)).rangeAt (w.heap.size + 1) 12 [.int .i64 (I 12), .int .i64 (I 13), .int .i64 (I 14), .int .i64 (I 15)]) := by
    intro j u hu
    have hj : j < 4 := by simpa using (List.getElem?_eq_some_iff.1 hu).1
    rcases (by omega : j = 0 ∨ j = 1 ∨ j = 2 ∨ j = 3) with rfl | rfl | rfl | rfl
    · cases hu; exact p0
    · cases hu; exact p1
    · cases hu; exact p2
    · cases hu; exact p3
  cases hq : cntB (I 3)
  · rw [Bool.false_and]
    go_enter Tryz.func98, Tryz.ntmps98
    go_upto_region 16 with (first
      | (refine wpList_load_mid rfl 59 (.tmp 9) rfl b (off + k * 16) rfl (insA I).toList _ (unhide HRG) Tryz.underlying59 rfl sizeI16 ?_; rw [Array.toArray_toList])
      | refine wpList_storeLast rfl 59 (.tmp 5) (.tmp 10) rfl _ (w.heap.size + 1) (by simp) rfl (insA I) rfl 16 sizeI16 rfl rfl (insA_one I) ?_)
    clear HRG
    go_wp2_with (first
      | (go_at_call 137; refine (isCount_any _ _).mono ?_; rintro e w1 ⟨rfl, rfl⟩)
      | (refine wpList_load_mid rfl 57 (.tmp 56) rfl (w.heap.size + 1) 12 rfl [.int .i64 (I 12), .int .i64 (I 13), .int .i64 (I 14), .int .i64 (I 15)] _ (unhide HPR) Tryz.underlying57 rfl size4 ?_)
      | (go_at_call 138; refine (unhide HPL _).mono ?_; rintro e w5 ⟨rfl, hx5⟩; have HX5 := hide ((unhide HX).trans hx5); have HX6 := hide hx5; (have i3 := unhide HN3 _ hx5); clear hx5)
      | (go_at_call 139; refine (unhide HTW _ (unhide HX6)).mono ?_; rintro e w6 ⟨rfl, hx6⟩; have HX7 := hide ((unhide HX5).trans hx6); clear hx6))
    go_ret
    exact ⟨rfl, unhide HX⟩
  · rw [Bool.true_and]
    have HN3 : Hid (∀ wx, Ext ((w.alloc (.cells #[.int .i64 (C).stage, .slice (some ⟨b, off, none⟩) n cap, .int .i64 (C).regs, .int .i64 (C).attr, .int .i64 (C).unif, .int .i64 (C).vary] 24)).alloc (.cells (insA I) 59)) wx → wx.cell? ⟨w.heap.size + 1, 3, none⟩ = some (.int .i64 (I 3))) := fun wx hx => (cellJ ((unhide HI).ext hx)).2.2.2.1
    have HPL : Hid (∀ wx, Calls Tryz.prog 138 #[.agg #[.int .i64 (I 12), .int .i64 (I 13), .int .i64 (I 14), .int .i64 (I 15)]] wx fun e w' => e = .returned (.bool (plcB I)) ∧ Ext wx w') := fun wx => places_any _ _ _ _ wx
    have EP : Hid (plcB I = true → (inB (I 12) 4 = true ∧ inB (I 13) 4 = true ∧ inB (I 14) 4 = true ∧ inB (I 15) 4 = true)) := fun h => by simpa [plcB] using h
    generalize plcB I = pb at *
    cases pb
    · rw [Bool.false_and]
      go_enter Tryz.func98, Tryz.ntmps98
      go_upto_region 16 with (first
        | (refine wpList_load_mid rfl 59 (.tmp 9) rfl b (off + k * 16) rfl (insA I).toList _ (unhide HRG) Tryz.underlying59 rfl sizeI16 ?_; rw [Array.toArray_toList])
        | refine wpList_storeLast rfl 59 (.tmp 5) (.tmp 10) rfl _ (w.heap.size + 1) (by simp) rfl (insA I) rfl 16 sizeI16 rfl rfl (insA_one I) ?_)
      clear HRG
      go_wp2_with (first
        | (go_at_call 137; refine (isCount_any _ _).mono ?_; rintro e w1 ⟨rfl, rfl⟩)
        | (refine wpList_load_mid rfl 57 (.tmp 56) rfl (w.heap.size + 1) 12 rfl [.int .i64 (I 12), .int .i64 (I 13), .int .i64 (I 14), .int .i64 (I 15)] _ (unhide HPR) Tryz.underlying57 rfl size4 ?_)
        | (go_at_call 138; refine (unhide HPL _).mono ?_; rintro e w5 ⟨rfl, hx5⟩; have HX5 := hide ((unhide HX).trans hx5); have HX6 := hide hx5; (have i3 := unhide HN3 _ hx5); clear hx5)
        | (go_at_call 139; refine (unhide HTW _ (unhide HX6)).mono ?_; rintro e w6 ⟨rfl, hx6⟩; have HX7 := hide ((unhide HX5).trans hx6); clear hx6))
      go_ret
      exact ⟨rfl, unhide HX5⟩
    · rw [Bool.true_and]
      have hq' : 1 ≤ I 3 ∧ I 3 ≤ 4 := by simpa [cntB] using hq
      have hp4' := unhide EP rfl
      have HTW : Hid (∀ wx, Ext ((w.alloc (.cells #[.int .i64 (C).stage, .slice (some ⟨b, off, none⟩) n cap, .int .i64 (C).regs, .int .i64 (C).attr, .int .i64 (C).unif, .int .i64 (C).vary] 24)).alloc (.cells (insA I) 59)) wx → Calls Tryz.prog 139 #[.slice (some ⟨w.heap.size + 1, 12, none⟩) (I 3).toNat 4] wx fun e w' => e = .returned (.bool (twB ((plcs I).take (I 3).toNat))) ∧ Ext wx w') := fun wx hx => by
        obtain ⟨r0, r1, r2, r3⟩ := cellP ((unhide HI).ext hx)
        have hlen : ((plcs I).take (I 3).toNat).length = (I 3).toNat := by rw [List.length_take]; simp [plcs]; omega
        have hh := twice_any (some ⟨w.heap.size + 1, 12, none⟩) 4 ((plcs I).take (I 3).toNat) wx (.inr ⟨by
            intro e
            rw [e] at hlen
            simp at hlen
            omega, w.heap.size + 1, 12, 4, rfl, by rw [hlen]; omega, by unfold maxLen; omega, fun i hi => by
            rw [hlen] at hi
            rcases (by omega : i = 0 ∨ i = 1 ∨ i = 2 ∨ i = 3) with rfl | rfl | rfl | rfl
            · rw [show ((plcs I).take (I 3).toNat).getD 0 0 = I 12 by simp [plcs, List.getD, hi]]; exact r0
            · rw [show ((plcs I).take (I 3).toNat).getD 1 0 = I 13 by simp [plcs, List.getD, hi]]; exact r1
            · rw [show ((plcs I).take (I 3).toNat).getD 2 0 = I 14 by simp [plcs, List.getD, hi]]; exact r2
            · rw [show ((plcs I).take (I 3).toNat).getD 3 0 = I 15 by simp [plcs, List.getD, hi]]; exact r3⟩)
          (fun x hx => by
            have := List.mem_of_mem_take hx
            simp [plcs] at this
            rcases this with rfl | rfl | rfl | rfl
            · exact hp4'.1
            · exact hp4'.2.1
            · exact hp4'.2.2.1
            · exact hp4'.2.2.2) (by rw [hlen]; omega)
        rw [hlen] at hh
        exact hh
      generalize twB ((plcs I).take (I 3).toNat) = tw at *
      clear hp4' hq
      rcases (by omega : I 3 = 1 ∨ I 3 = 2 ∨ I 3 = 3 ∨ I 3 = 4) with h3 | h3 | h3 | h3
      all_goals
        rw [h3] at i3 HN3 HTW
        have hq : cntB (I 3) = true := by rw [h3]; rfl
        rw [h3] at hq
        clear h3 hq'
        go_enter Tryz.func98, Tryz.ntmps98
        go_upto_region 16 with (first
          | (refine wpList_load_mid rfl 59 (.tmp 9) rfl b (off + k * 16) rfl (insA I).toList _ (unhide HRG) Tryz.underlying59 rfl sizeI16 ?_; rw [Array.toArray_toList])
          | refine wpList_storeLast rfl 59 (.tmp 5) (.tmp 10) rfl _ (w.heap.size + 1) (by simp) rfl (insA I) rfl 16 sizeI16 rfl rfl (insA_one I) ?_)
        clear HRG
        go_wp2_with (first
          | (go_at_call 137; refine (isCount_any _ _).mono ?_; rintro e w1 ⟨rfl, rfl⟩)
          | (refine wpList_load_mid rfl 57 (.tmp 56) rfl (w.heap.size + 1) 12 rfl [.int .i64 (I 12), .int .i64 (I 13), .int .i64 (I 14), .int .i64 (I 15)] _ (unhide HPR) Tryz.underlying57 rfl size4 ?_)
          | (go_at_call 138; refine (unhide HPL _).mono ?_; rintro e w5 ⟨rfl, hx5⟩; have HX5 := hide ((unhide HX).trans hx5); have HX6 := hide hx5; (have i3 := unhide HN3 _ hx5); clear hx5)
          | (go_at_call 139; refine (unhide HTW _ (unhide HX6)).mono ?_; rintro e w6 ⟨rfl, hx6⟩; have HX7 := hide ((unhide HX5).trans hx6); clear hx6))
        go_ret
        exact ⟨rfl, unhide HX7⟩
end Go.Proofs.YtglfhmlcmffoaaaGreat
