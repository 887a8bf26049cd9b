/-
  Codes: rows of instructions that are read; the walks of hasRegisters and of fieldsMayBe. What the dump lacks is left out.
-/
import Derived.Test.YtfoffnbkfnbglaaCE
namespace Go.Proofs.Ytfoffnbkfnbglaa
open Go.RowKit
set_option linter.unusedVariables false
set_option linter.unusedSimpArgs false

/-- The slice value v holds the instructions L. -/
def IR (w : World) (v : Value) (L : List (Nat → Int)) : Prop := ∃ ao cap, v = .slice ao L.length cap ∧ (ao = none → cap = 0) ∧ L.length ≤ cap ∧ cap ≤ maxLen ∧ ∀ i (h : i < L.length), ∃ b off, ao = some ⟨b, off, none⟩ ∧ w.rangeAt b (off + i * 16) (insA L[i]).toList
theorem rng_ext {w w' : World} {b o : Nat} {cs : List Value} (h : w.rangeAt b o cs) (hx : Ext w w') : w'.rangeAt b o cs := by
  intro j v hv
  have := h j v hv
  rw [hx.cell (p := ⟨b, o + j, none⟩) (World.block_lt_of_cell? w _ this)]
  exact this
theorem IR.ext {w w' : World} {v : Value} {L : List (Nat → Int)} (h : IR w v L) (hx : Ext w w') : IR w' v L := by
  obtain ⟨ao, cap, e, h1, h2, h3, h4⟩ := h
  refine ⟨ao, cap, e, h1, h2, h3, fun i hi => ?_⟩
  obtain ⟨b, off, e2, c⟩ := h4 i hi
  exact ⟨b, off, e2, rng_ext c hx⟩

set_option maxRecDepth 10000 in
set_option maxHeartbeats 4000000 in
theorem regs_any (C : Cod) (v : Value) (I : Nat → Int) (w : World) : Calls Try.prog 55 #[.agg #[.int .i64 (C).stage, v, .int .i64 (C).regs, .int .i64 (C).attr, .int .i64 (C).unif, .int .i64 (C).vary], .agg (insA I)] w fun e w' => e = .returned (.bool (rgsB C I)) ∧ Ext w w' := by
  have E := hide (show rgsB C I = ((readsP I).all (fun r => inB r C.regs) && (!wrB (I 0) || inB (writI I) C.regs)) from rfl)
  generalize rgsB C I = y at *
  have HR := hide (fun wx => reads_any I wx)
  have HW := hide (fun wx => writes_any I wx)
  generalize readsP I = xs at *
  generalize wrB (I 0) = wb at *
  generalize writI I = wi at *
  have HI : Hid (Blk ((w.alloc (.cells #[.int .i64 (C).stage, v, .int .i64 (C).regs, .int .i64 (C).attr, .int .i64 (C).unif, .int .i64 (C).vary] 26)).alloc (.cells (insA I) 39)) (w.heap.size + 1) (insA I) 39) := Blk.here (by simp)
  have HC : Hid (Blk ((w.alloc (.cells #[.int .i64 (C).stage, v, .int .i64 (C).regs, .int .i64 (C).attr, .int .i64 (C).unif, .int .i64 (C).vary] 26)).alloc (.cells (insA I) 39)) w.heap.size #[.int .i64 (C).stage, v, .int .i64 (C).regs, .int .i64 (C).attr, .int .i64 (C).unif, .int .i64 (C).vary] 26) := (Blk.new w _ _).alloc _
  have HX := hide (((Ext.refl w).alloc (.cells #[.int .i64 (C).stage, v, .int .i64 (C).regs, .int .i64 (C).attr, .int .i64 (C).unif, .int .i64 (C).vary] 26)).alloc (.cells (insA I) 39))
  go_enter Try.func55, Try.ntmps55
  go_wp2_with (first
    | refine wpList_load_row rfl 39 (.tmp 3) rfl (w.heap.size + 1) rfl 39 (insA I) (0, 0) _ (unhide HI) Try.underlying39 rfl size16 ?_
    | (go_at_call 9999))
  refine (unhide HR _).mono ?_
  rintro e w3 ⟨ao, cap, rfl, hown, hx3⟩
  have HO := hide hown.row
  have HI3 := hide ((unhide HI).ext hx3)
  have HX3 := hide ((unhide HX).trans hx3)
  obtain ⟨_, _, k2, _, _, _⟩ := cellC ((unhide HC).ext hx3)
  clear hown hx3 HI HC HX HR
  have hb : xs.length ≤ 9223372036854775807 := by
    obtain ⟨_, _, e9, _, h9, h10⟩ := (unhide HO).shape
    unfold maxLen at h10
    omega
  go_wp2
  go_loopw [12] (fun iv wr => ∃ k : Nat, k ≤ xs.length ∧ iv = .int .i64 (k : Int) ∧ wr = w3 ∧ (xs.take k).all (fun r => inB r C.regs) = true) (fun iv _ => xs.length - (intOf iv).toNat)
  case atStart => exact ⟨0, Nat.zero_le _, rfl, rfl, rfl⟩
  case round =>
    obtain ⟨k, hk, rfl, rfl, hall⟩ := hrel
    have HA := hide hall
    clear hall
    by_cases hlt : k < xs.length
    · obtain ⟨b, off, ea, hc⟩ := (unhide HO).at k hlt
      subst ea
      have ck := hc k hlt
      have HK := hide (List.take_succ_eq_append_getElem hlt)
      have HM := hide (List.getElem_mem hlt)
      generalize xs[k] = x at *
      clear hc
      cases hq : inB x C.regs
      case false =>
        have EA : Hid (y = false) := by
          rw [Hid, unhide E, List.all_eq_false.2 ⟨x, unhide HM, by rw [hq]; decide⟩]
          rfl
        go_wp2_with (go_at_call 53; refine (isBelow_any _ _ _).mono ?_; rintro e w1 ⟨rfl, rfl⟩)
        go_ret
        rw [unhide EA]
        exact ⟨rfl, unhide HX3⟩
      case true =>
        go_wp2_with (go_at_call 53; refine (isBelow_any _ _ _).mono ?_; rintro e w1 ⟨rfl, rfl⟩)
        go_roundw
        case rel =>
          refine ⟨k + 1, by omega, by go_num, by first | rfl | trivial, ?_⟩
          rw [unhide HK, List.all_append, unhide HA]
          simp [hq]
        case measure => simp [intOf]; omega
    · obtain rfl : k = xs.length := by omega
      have EA : Hid (y = (!wb || inB wi C.regs)) := by
        have h1 := unhide HA
        rw [List.take_length] at h1
        rw [Hid, unhide E, h1]
        rfl
      go_wp2_with (first
        | refine wpList_load_row rfl 39 (.tmp 3) rfl (w.heap.size + 1) rfl 39 (insA I) (0, 0) _ (unhide HI3) Try.underlying39 rfl size16 ?_
        | (go_at_call 9999))
      refine (unhide HW _).mono ?_
      rintro e w4 ⟨rfl, hx4⟩
      have HX4 := hide ((unhide HX3).trans hx4)
      have k2' : w4.cell? ⟨w.heap.size, 2, none⟩ = some (.int .i64 C.regs) := by
        rw [hx4.cell (p := ⟨w.heap.size, 2, none⟩) (World.block_lt_of_cell? _ _ k2)]
        exact k2
      clear hx4 k2
      cases wb
      all_goals
        go_wp2_with (go_at_call 53; refine (isBelow_any _ _ _).mono ?_; rintro e w1 ⟨rfl, rfl⟩)
        go_ret
        rw [unhide EA]
        exact ⟨rfl, unhide HX4⟩
end Go.Proofs.Ytfoffnbkfnbglaa
