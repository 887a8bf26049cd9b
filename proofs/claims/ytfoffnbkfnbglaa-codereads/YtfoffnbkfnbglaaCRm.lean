/-
  The document's May.
-/
import Derived.Test.YtfoffnbkfnbglaaCRr
namespace Go.Proofs.Ytfoffnbkfnbglaa
open Go.RowKit
set_option linter.unusedVariables false
set_option linter.unusedSimpArgs false

theorem inB19 (a : Int) : inB a 1 = (inB a 9 && a == 0) := by
  rw [Bool.eq_iff_iff]
  simp [inB]
  omega

set_option maxRecDepth 10000 in
set_option maxHeartbeats 4000000 in
theorem refMay_any (C : Cod) (v : Value) (w : World) (h : IR w v C.ins) : Calls Try.prog 16 #[.agg #[.int .i64 (C).stage, v, .int .i64 (C).regs, .int .i64 (C).attr, .int .i64 (C).unif, .int .i64 (C).vary]] w fun e w' => e = .returned (.bool (mayP C)) ∧ Ext w w' := by
  have HV := hide h
  obtain ⟨ao, cap, rfl, hn0, hlc, hcm, hat⟩ := h
  clear hat hn0
  unfold maxLen at hcm
  have E : Hid (mayP C = (headB C && (decide (C.ins.length ≤ 4096) && mayTo C C.ins.length))) := rfl
  generalize mayP C = y at *
  have HX := hide ((Ext.refl w).alloc (.cells #[.int .i64 (C).stage, .slice ao C.ins.length cap, .int .i64 (C).regs, .int .i64 (C).attr, .int .i64 (C).unif, .int .i64 (C).vary] 26))
  have HC := hide (Blk.new w #[.int .i64 (C).stage, .slice ao C.ins.length cap, .int .i64 (C).regs, .int .i64 (C).attr, .int .i64 (C).unif, .int .i64 (C).vary] 26)
  obtain ⟨z0, z1, z2, z3, z4, z5⟩ := cellC (unhide HC)
  by_cases hst : C.stage = 1 ∨ C.stage = 2
  case neg =>
    have e : headB C = false := by
      unfold headB
      rw [if_neg (by omega), if_neg (by omega)]
    rw [e] at E
    have d1 : (C.stage != 1) = true := by simp; omega
    have d2 : (C.stage != 2) = true := by simp; omega
    clear e hst
    go_enter Try.func16, Try.ntmps16
    go_wp2
    go_ret
    rw [unhide E]
    exact ⟨rfl, unhide HX⟩
  case pos =>
  by_cases hl : C.ins.length ≤ 4096
  case neg =>
    have hl' : (4096 : Int) < (C.ins.length : Int) := by omega
    have EF : Hid (y = false) := by rw [Hid, unhide E, decide_eq_false hl]; simp
    rcases hst with hs | hs
    · have d1 : (C.stage != 1) = false := by simp [hs]
      clear hs
      go_enter Try.func16, Try.ntmps16
      go_wp2
      go_ret
      rw [unhide EF]
      exact ⟨rfl, unhide HX⟩
    · have d1 : (C.stage != 1) = true := by simp [hs]
      have d2 : (C.stage != 2) = false := by simp [hs]
      clear hs
      go_enter Try.func16, Try.ntmps16
      go_wp2
      go_ret
      rw [unhide EF]
      exact ⟨rfl, unhide HX⟩
  case pos =>
  rw [decide_eq_true hl] at E
  have hl' : ¬ (4096 : Int) < (C.ins.length : Int) := by omega
  have HQ := hide hst
  have HR := hide (fun wx k (hk : k < C.ins.length) (hx : Ext w wx) => right_any C _ C.ins k wx ((unhide HV).ext hx) hk hst)
  have HT := hide (mayTo_succ C)
  have HF := hide (fun k (hk : k < C.ins.length) h => mayTo_false (C := C) (k := k) (n := C.ins.length) h hk)
  rcases hst with hs | hs
  · have eh : headB C = (inB C.regs 1025 && (inB C.attr 9 && (inB C.unif 33 && inB C.vary 5))) := by unfold headB; rw [if_pos hs]
    rw [eh] at E
    have d1 : (C.stage != 1) = false := by simp [hs]
    have d2 : (C.stage == 2) = false := by simp [hs]
    clear eh hs
    cases q1 : inB C.regs 1025 <;> cases q2 : inB C.attr 9 <;> cases q3 : inB C.unif 33 <;> cases q4 : inB C.vary 5
    case true.true.true.true =>
      rw [q1, q2, q3, q4] at E
      go_enter Try.func16, Try.ntmps16
      go_wp2_with (go_at_call 35; refine (refIn_any _ _ _).mono ?_; rintro e w1 ⟨rfl, rfl⟩)
      go_loopw [57] (fun iv wr => ∃ k : Nat, k ≤ C.ins.length ∧ iv = .int .i64 (k : Int) ∧ Blk wr w.heap.size #[.int .i64 (C).stage, .slice ao C.ins.length cap, .int .i64 (C).regs, .int .i64 (C).attr, .int .i64 (C).unif, .int .i64 (C).vary] 26 ∧ Ext w wr ∧ mayTo C k = true) (fun iv _ => C.ins.length - (intOf iv).toNat)
      case atStart => exact ⟨0, Nat.zero_le _, rfl, unhide HC, unhide HX, rfl⟩
      case round =>
        clear HC HX z0 z1 z2 z3 z4 z5
        obtain ⟨k, hk, rfl, hb, hx, ht⟩ := hrel
        have D := hide (And.intro hb (And.intro hx ht))
        clear hb hx ht
        by_cases hlt : k < C.ins.length
        · have hkn : (k : Int) < (C.ins.length : Int) := by omega
          have HK := hide (unhide HT k)
          have HFK := hide (unhide HF k hlt)
          have hgd : C.ins.getD k zI = C.ins[k] := by simp [hlt]
          rw [hgd] at HK HFK
          have HRK := hide (unhide HR wr k hlt (unhide D).2.1)
          clear hgd
          generalize insB C C.ins.length k C.ins[k] = ib at *
          go_wp2_with (first
            | refine wpList_load_row rfl 26 (.tmp 1) rfl w.heap.size rfl 26 #[.int .i64 (C).stage, .slice ao C.ins.length cap, .int .i64 (C).regs, .int .i64 (C).attr, .int .i64 (C).unif, .int .i64 (C).vary] (0, 0) _ (unhide D).1 Try.underlying26 rfl size6 ?_
            | (go_at_call 9999))
          refine (unhide HRK).mono ?_
          rintro e w4 ⟨rfl, hx4⟩
          have D4 := hide (And.intro ((unhide D).1.ext hx4) (And.intro ((unhide D).2.1.trans hx4) (unhide D).2.2))
          clear hx4 D HRK
          cases ib
          · go_wp2
            go_ret
            rw [unhide E, unhide HFK (by first | rfl | trivial)]
            exact ⟨rfl, (unhide D4).2.1⟩
          · go_wp2
            go_roundw
            case rel => exact ⟨k + 1, by omega, by go_num, (unhide D4).1, (unhide D4).2.1, by rw [unhide HK, (unhide D4).2.2]; rfl⟩
            case measure => simp [intOf]; omega
        · obtain rfl : k = C.ins.length := by omega
          go_wp2
          go_ret
          rw [unhide E, (unhide D).2.2]
          exact ⟨rfl, (unhide D).2.1⟩
    all_goals
      rw [q1, q2, q3, q4] at E
      simp only [Bool.and_true, Bool.true_and, Bool.false_and, Bool.and_false] at E
      go_enter Try.func16, Try.ntmps16
      go_wp2_with (go_at_call 35; refine (refIn_any _ _ _).mono ?_; rintro e w1 ⟨rfl, rfl⟩)
      go_ret
      rw [unhide E]
      exact ⟨rfl, unhide HX⟩
  · have eh : headB C = (inB C.regs 1025 && ((inB C.attr 9 && C.attr == 0) && (inB C.unif 33 && inB C.vary 5))) := by unfold headB; rw [if_neg (by omega), if_pos hs, inB19]
    rw [eh] at E
    have d1 : (C.stage != 1) = true := by simp [hs]
    have d2 : (C.stage != 2) = false := by simp [hs]
    have d3 : (C.stage == 2) = true := by simp [hs]
    clear eh hs
    cases q1 : inB C.regs 1025 <;> cases q2 : inB C.attr 9 <;> cases q3 : inB C.unif 33 <;> cases q4 : inB C.vary 5 <;> cases q5 : (C.attr == 0)
    case true.true.true.true.true =>
      rw [q1, q2, q3, q4, q5] at E
      have q6 : (C.attr != 0) = false := by simp [bne, q5]
      go_enter Try.func16, Try.ntmps16
      go_wp2_with (go_at_call 35; refine (refIn_any _ _ _).mono ?_; rintro e w1 ⟨rfl, rfl⟩)
      go_loopw [57] (fun iv wr => ∃ k : Nat, k ≤ C.ins.length ∧ iv = .int .i64 (k : Int) ∧ Blk wr w.heap.size #[.int .i64 (C).stage, .slice ao C.ins.length cap, .int .i64 (C).regs, .int .i64 (C).attr, .int .i64 (C).unif, .int .i64 (C).vary] 26 ∧ Ext w wr ∧ mayTo C k = true) (fun iv _ => C.ins.length - (intOf iv).toNat)
      case atStart => exact ⟨0, Nat.zero_le _, rfl, unhide HC, unhide HX, rfl⟩
      case round =>
        clear HC HX z0 z1 z2 z3 z4 z5
        obtain ⟨k, hk, rfl, hb, hx, ht⟩ := hrel
        have D := hide (And.intro hb (And.intro hx ht))
        clear hb hx ht
        by_cases hlt : k < C.ins.length
        · have hkn : (k : Int) < (C.ins.length : Int) := by omega
          have HK := hide (unhide HT k)
          have HFK := hide (unhide HF k hlt)
          have hgd : C.ins.getD k zI = C.ins[k] := by simp [hlt]
          rw [hgd] at HK HFK
          have HRK := hide (unhide HR wr k hlt (unhide D).2.1)
          clear hgd
          generalize insB C C.ins.length k C.ins[k] = ib at *
          go_wp2_with (first
            | refine wpList_load_row rfl 26 (.tmp 1) rfl w.heap.size rfl 26 #[.int .i64 (C).stage, .slice ao C.ins.length cap, .int .i64 (C).regs, .int .i64 (C).attr, .int .i64 (C).unif, .int .i64 (C).vary] (0, 0) _ (unhide D).1 Try.underlying26 rfl size6 ?_
            | (go_at_call 9999))
          refine (unhide HRK).mono ?_
          rintro e w4 ⟨rfl, hx4⟩
          have D4 := hide (And.intro ((unhide D).1.ext hx4) (And.intro ((unhide D).2.1.trans hx4) (unhide D).2.2))
          clear hx4 D HRK
          cases ib
          · go_wp2
            go_ret
            rw [unhide E, unhide HFK (by first | rfl | trivial)]
            exact ⟨rfl, (unhide D4).2.1⟩
          · go_wp2
            go_roundw
            case rel => exact ⟨k + 1, by omega, by go_num, (unhide D4).1, (unhide D4).2.1, by rw [unhide HK, (unhide D4).2.2]; rfl⟩
            case measure => simp [intOf]; omega
        · obtain rfl : k = C.ins.length := by omega
          go_wp2
          go_ret
          rw [unhide E, (unhide D).2.2]
          exact ⟨rfl, (unhide D).2.1⟩
    all_goals
      rw [q1, q2, q3, q4, q5] at E
      have q6 : (C.attr != 0) = !(C.attr == 0) := rfl
      rw [q5] at q6
      simp only [Bool.and_true, Bool.true_and, Bool.false_and, Bool.and_false, Bool.not_true, Bool.not_false] at E q6
      go_enter Try.func16, Try.ntmps16
      go_wp2_with (go_at_call 35; refine (refIn_any _ _ _).mono ?_; rintro e w1 ⟨rfl, rfl⟩)
      go_ret
      rw [unhide E]
      exact ⟨rfl, unhide HX⟩
end Go.Proofs.Ytfoffnbkfnbglaa
