/-
  Codes: the walks of arePlaces, hasTwice. What the dump lacks is left out.
-/
import Derived.Test.YtfoffnbkfnbglaaCH
namespace Go.Proofs.Ytfoffnbkfnbglaa
open Go.RowKit
set_option linter.unusedVariables false
set_option linter.unusedSimpArgs false

section
variable (p0 p1 p2 p3 : Int) (w : World)
theorem idx_0 : (Instr.index 37 (.agg #[.int .i64 p0, .int .i64 p1, .int .i64 p2, .int .i64 p3]) (.int .i64 0)).run Try.prog w = .ok (.int .i64 p0) w := by kernel_rfl
theorem idx_1 : (Instr.index 37 (.agg #[.int .i64 p0, .int .i64 p1, .int .i64 p2, .int .i64 p3]) (.int .i64 1)).run Try.prog w = .ok (.int .i64 p1) w := by kernel_rfl
theorem idx_2 : (Instr.index 37 (.agg #[.int .i64 p0, .int .i64 p1, .int .i64 p2, .int .i64 p3]) (.int .i64 2)).run Try.prog w = .ok (.int .i64 p2) w := by kernel_rfl
theorem idx_3 : (Instr.index 37 (.agg #[.int .i64 p0, .int .i64 p1, .int .i64 p2, .int .i64 p3]) (.int .i64 3)).run Try.prog w = .ok (.int .i64 p3) w := by kernel_rfl
end

set_option maxRecDepth 10000 in
set_option maxHeartbeats 2000000 in
theorem places_any (p0 p1 p2 p3 : Int) (w : World) : Calls Try.prog 64 #[.agg #[.int .i64 p0, .int .i64 p1, .int .i64 p2, .int .i64 p3]] w fun e w' => e = .returned (.bool (inB p0 4 && (inB p1 4 && (inB p2 4 && inB p3 4)))) ∧ Ext w w' := by
  obtain ⟨y, E⟩ : ∃ y, Hid ((inB p0 4 && (inB p1 4 && (inB p2 4 && inB p3 4))) = y) := ⟨_, rfl⟩
  rw [unhide E]
  have x0 := idx_0 p0 p1 p2 p3
  have x1 := idx_1 p0 p1 p2 p3
  have x2 := idx_2 p0 p1 p2 p3
  have x3 := idx_3 p0 p1 p2 p3
  cases q0 : inB p0 4
  case false =>
    rw [q0] at E
    go_enter Try.func64, Try.ntmps64
    go_wp2
    refine wp_loop_rounds 1 ?_
    rw [rounds_succ]
    go_wp2_with (go_at_call 53; refine (isBelow_any _ _ _).mono ?_; rintro e w1 ⟨rfl, rfl⟩)
    go_ret
    exact ⟨congrArg _ (congrArg _ (unhide E)), (Ext.refl w).alloc _⟩
  case true =>
  cases q1 : inB p1 4
  case false =>
    rw [q0, q1] at E
    go_enter Try.func64, Try.ntmps64
    go_wp2
    refine wp_loop_rounds 2 ?_
    rw [rounds_succ]
    go_wp2_with (go_at_call 53; refine (isBelow_any _ _ _).mono ?_; rintro e w1 ⟨rfl, rfl⟩)
    rw [rounds_succ]
    go_wp2_with (go_at_call 53; refine (isBelow_any _ _ _).mono ?_; rintro e w1 ⟨rfl, rfl⟩)
    go_ret
    exact ⟨congrArg _ (congrArg _ (unhide E)), (Ext.refl w).alloc _⟩
  case true =>
  cases q2 : inB p2 4
  case false =>
    rw [q0, q1, q2] at E
    go_enter Try.func64, Try.ntmps64
    go_wp2
    refine wp_loop_rounds 3 ?_
    rw [rounds_succ]
    go_wp2_with (go_at_call 53; refine (isBelow_any _ _ _).mono ?_; rintro e w1 ⟨rfl, rfl⟩)
    rw [rounds_succ]
    go_wp2_with (go_at_call 53; refine (isBelow_any _ _ _).mono ?_; rintro e w1 ⟨rfl, rfl⟩)
    rw [rounds_succ]
    go_wp2_with (go_at_call 53; refine (isBelow_any _ _ _).mono ?_; rintro e w1 ⟨rfl, rfl⟩)
    go_ret
    exact ⟨congrArg _ (congrArg _ (unhide E)), (Ext.refl w).alloc _⟩
  case true =>
  cases q3 : inB p3 4
  all_goals
    rw [q0, q1, q2, q3] at E
    go_enter Try.func64, Try.ntmps64
    go_wp2
    refine wp_loop_rounds 5 ?_
    rw [rounds_succ]
    go_wp2_with (go_at_call 53; refine (isBelow_any _ _ _).mono ?_; rintro e w1 ⟨rfl, rfl⟩)
    rw [rounds_succ]
    go_wp2_with (go_at_call 53; refine (isBelow_any _ _ _).mono ?_; rintro e w1 ⟨rfl, rfl⟩)
    rw [rounds_succ]
    go_wp2_with (go_at_call 53; refine (isBelow_any _ _ _).mono ?_; rintro e w1 ⟨rfl, rfl⟩)
    rw [rounds_succ]
    go_wp2_with (go_at_call 53; refine (isBelow_any _ _ _).mono ?_; rintro e w1 ⟨rfl, rfl⟩)
    try
      rw [rounds_succ]
      go_wp2
    go_ret
    exact ⟨congrArg _ (congrArg _ (unhide E)), (Ext.refl w).alloc _⟩

theorem twB_snoc (l : List Int) (x : Int) : twB (l ++ [x]) = (twB l || l.contains x) := by
  induction l with
  | nil => simp [twB]
  | cons a r ih =>
    rw [List.cons_append, twB, ih, twB]
    simp only [List.contains_append, List.contains_cons, List.contains_nil, Bool.or_false]
    rw [show (a == x) = (x == a) from BEq.comm]
    cases r.contains a <;> cases (x == a) <;> cases twB r <;> cases r.contains x <;> rfl
theorem twB_pre (l r : List Int) (h : twB l = true) : twB (l ++ r) = true := by
  induction l with
  | nil => simp [twB] at h
  | cons a t ih =>
    rw [twB, Bool.or_eq_true] at h
    rw [List.cons_append, twB, Bool.or_eq_true, List.contains_append, Bool.or_eq_true]
    rcases h with h | h
    · exact .inl (.inl h)
    · exact .inr (ih h)
def seenA (l : List Int) : Array Value := #[.bool (l.contains 0), .bool (l.contains 1), .bool (l.contains 2), .bool (l.contains 3)]
theorem seen_at (l : List Int) (x : Int) (h : inB x 4 = true) : (seenA l)[x.toNat]? = some (.bool (l.contains x)) ∧ 0 ≤ x ∧ x < 4 := by
  simp only [inB, Bool.and_eq_true, decide_eq_true_eq] at h
  rcases (by omega : x = 0 ∨ x = 1 ∨ x = 2 ∨ x = 3) with rfl | rfl | rfl | rfl <;> exact ⟨rfl, by omega, by omega⟩
theorem seen_set (l : List Int) (x : Int) (h : inB x 4 = true) : (seenA l).setIfInBounds x.toNat (.bool true) = seenA (l ++ [x]) := by
  simp only [inB, Bool.and_eq_true, decide_eq_true_eq] at h
  rcases (by omega : x = 0 ∨ x = 1 ∨ x = 2 ∨ x = 3) with rfl | rfl | rfl | rfl <;> simp [seenA]

set_option maxRecDepth 10000 in
set_option maxHeartbeats 2000000 in
theorem twice_any (ao : Option Addr) (cap : Nat) (xs : List Int) (w : World) (hr : Row .i64 w (.slice ao xs.length cap) xs) (hp : ∀ x ∈ xs, inB x 4 = true) (hl : xs.length ≤ 4) :
    Calls Try.prog 65 #[.slice ao xs.length cap] w fun e w' => e = .returned (.bool (twB xs)) ∧ Ext w w' := by
  have HR := hide hr
  have HP := hide hp
  clear hr hp
  have HB : Hid (Blk (w.alloc (.cells #[.bool false, .bool false, .bool false, .bool false] 105)) w.heap.size (seenA []) 105) := Blk.new w _ _
  go_enter Try.func65, Try.ntmps65
  go_wp2
  go_loopw [8] (fun iv wr => ∃ k : Nat, k ≤ xs.length ∧ iv = .int .i64 (k : Int) ∧ Blk wr w.heap.size (seenA (xs.take k)) 105 ∧ Ext w wr ∧ twB (xs.take k) = false) (fun iv _ => xs.length - (intOf iv).toNat)
  case atStart => exact ⟨0, Nat.zero_le _, rfl, unhide HB, (Ext.refl w).alloc _, rfl⟩
  case round =>
    obtain ⟨k, hk, rfl, hb, hx, htw⟩ := hrel
    have X := hide hx
    have B := hide hb
    have HT := hide htw
    clear hx hb htw
    by_cases hlt : k < xs.length
    · obtain ⟨b, off, ea, hc⟩ := ((unhide HR).ext (unhide X)).at k hlt
      subst ea
      have c0 := hc k hlt
      have hq := unhide HP xs[k] (List.getElem_mem hlt)
      have HS := hide (seen_set (xs.take k) xs[k] hq)
      obtain ⟨s0, s1, s2⟩ := seen_at (xs.take k) xs[k] hq
      have HK := hide (List.take_succ_eq_append_getElem hlt)
      have HD : Hid (xs = xs.take (k + 1) ++ xs.drop (k + 1)) := (List.take_append_drop _ _).symm
      have hcl := (unhide B).cell s0
      have hfr := (unhide B).free xs[k].toNat
      have HSN := hide (twB_snoc (xs.take k) xs[k])
      clear hc s0 hq
      generalize xs[k] = x at *
      have htn : ((x.toNat : Nat) : Int) = x := by omega
      cases hct : (xs.take k).contains x
      case true =>
        rw [hct] at hcl
        have E : Hid (twB xs = true) := by
          rw [Hid, unhide HD]
          refine twB_pre _ _ ?_
          rw [unhide HK, unhide HSN, hct]
          simp
        go_wp2
        go_ret
        rw [unhide E]
        exact ⟨rfl, unhide X⟩
      case false =>
        rw [hct] at hcl
        have HB2 := hide ((unhide B).set x.toNat (.bool true))
        go_wp2
        go_roundw
        case rel =>
          refine ⟨k + 1, by omega, by go_num, ?_, ?_, ?_⟩
          · rw [unhide HK, ← unhide HS]
            exact unhide HB2
          · exact (unhide X).grown (grownBy_set _ _ _ _) (unhide X).size (fun j e => by cases e; exact Nat.le_refl _)
          · rw [unhide HK, unhide HSN, hct, unhide HT]; rfl
        case measure => simp [intOf]; omega
    · obtain rfl : k = xs.length := by omega
      have E : Hid (twB xs = false) := by have := unhide HT; rw [List.take_length] at this; exact this
      go_wp2
      go_ret
      rw [unhide E]
      exact ⟨rfl, unhide X⟩
end Go.Proofs.Ytfoffnbkfnbglaa
