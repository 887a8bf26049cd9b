/-
  Codes: the walks of isBelow, isCount, isBase, floatArgs, Args, Writes. What the dump lacks is left out.
-/
import Derived.Test.YtglfhmlcmffoaaaGreatProg
import Derived.Test.YtglfhmlcmffoaaaGreatVMBJ
import Derived.BigQuiet
namespace Go.Proofs.YtglfhmlcmffoaaaGreat
open Go.RowKit
set_option linter.unusedVariables false
set_option linter.unusedSimpArgs false

def insA (I : Nat → Int) : Array Value := #[.int .i64 (I 0), .int .i64 (I 1), .int .i64 (I 2), .int .i64 (I 3), .int .i64 (I 4), .int .i64 (I 5), .int .i64 (I 6), .int .i64 (I 7), .int .i32 (I 8), .int .i32 (I 9), .int .i32 (I 10), .int .i32 (I 11), .int .i64 (I 12), .int .i64 (I 13), .int .i64 (I 14), .int .i64 (I 15)]
theorem insA_size (I : Nat → Int) : (insA I).size = 16 := rfl
theorem insA_one (I : Nat → Int) : (insA I).all (·.oneCell') = true := by simp [insA, Value.oneCell']

theorem isBelow_any (x n : Int) (w : World) : Calls Tryz.prog 95 #[.int .i64 x, .int .i64 n] w fun e w' => e = .returned (.bool (inB x n)) ∧ w' = w := by
  by_cases h : 0 ≤ x
  · have hd : decide (0 ≤ x) = true := decide_eq_true h
    have E : Hid (inB x n = decide (x < n)) := by simp [Hid, inB, hd]
    go_enter Tryz.func95, Tryz.ntmps95
    go_wp2
    go_ret
    rw [unhide E]
    exact ⟨rfl, rfl⟩
  · have hd : decide (0 ≤ x) = false := decide_eq_false h
    have E : Hid (inB x n = false) := by simp [Hid, inB, hd]
    go_enter Tryz.func95, Tryz.ntmps95
    go_wp2
    go_ret
    rw [unhide E]
    exact ⟨rfl, rfl⟩

theorem isCount_any (x : Int) (w : World) : Calls Tryz.prog 137 #[.int .i64 x] w fun e w' => e = .returned (.bool (cntB x)) ∧ w' = w := by
  by_cases h : 1 ≤ x
  · have hd : decide (1 ≤ x) = true := decide_eq_true h
    have E : Hid (cntB x = decide (x ≤ 4)) := by simp [Hid, cntB, hd]
    go_enter Tryz.func137, Tryz.ntmps137
    go_wp2
    go_ret
    rw [unhide E]
    exact ⟨rfl, rfl⟩
  · have hd : decide (1 ≤ x) = false := decide_eq_false h
    have E : Hid (cntB x = false) := by simp [Hid, cntB, hd]
    go_enter Tryz.func137, Tryz.ntmps137
    go_wp2
    go_ret
    rw [unhide E]
    exact ⟨rfl, rfl⟩

theorem isBase_any (x : Int) (w : World) : Calls Tryz.prog 64 #[.int .i64 x] w fun e w' => e = .returned (.bool (baseB x)) ∧ w' = w := by
  by_cases h1 : x = 1
  · subst h1
    go_enter Tryz.func64, Tryz.ntmps64
    go_wp2
    go_ret
    exact ⟨rfl, rfl⟩
  · have d1 : (x == 1) = false := beq_eq_false_iff_ne.2 h1
    by_cases h2 : x = 2
    · subst h2
      go_enter Tryz.func64, Tryz.ntmps64
      go_wp2
      go_ret
      exact ⟨rfl, rfl⟩
    · have d2 : (x == 2) = false := beq_eq_false_iff_ne.2 h2
      have E : Hid (baseB x = (x == 3)) := by simp [Hid, baseB, d1, d2]
      go_enter Tryz.func64, Tryz.ntmps64
      go_wp2
      go_ret
      rw [unhide E]
      exact ⟨rfl, rfl⟩

set_option maxHeartbeats 1000000 in
theorem floatArgs_any (f : Int) (w : World) : Calls Tryz.prog 63 #[.int .i64 f] w fun e w' => e = .returned (.int .i64 (fargs f : Int)) ∧ w' = w := by
  have E : Hid (∀ n : Nat, fargs f = n → (fargs f : Int) = n) := fun n h => by rw [h]
  have E2 : Hid (fargs f = if (12 ≤ f ∧ f ≤ 16) ∨ f = 19 ∨ f = 21 then 2 else if f = 17 ∨ f = 18 then 3 else 1) := rfl
  generalize fargs f = y at *
  go_enter Tryz.func63, Tryz.ntmps63
  go_wp2
  all_goals
    go_ret
    refine ⟨?_, rfl⟩
    have e := unhide E2
    simp only [beq_iff_eq, beq_eq_false_iff_ne, ne_eq] at *
    first
    | (rw [if_pos (by omega)] at e; rw [e]; rfl)
    | (rw [if_neg (by omega), if_pos (by omega)] at e; rw [e]; rfl)
    | (rw [if_neg (by omega), if_neg (by omega)] at e; rw [e]; rfl)

set_option maxHeartbeats 2000000 in
theorem args_any (f b : Int) (w : World) : Calls Tryz.prog 37 #[.int .i64 f, .int .i64 b] w fun e w' => e = .returned (.int .i64 (argsP f b : Int)) ∧ w' = w := by
  have E2 : Hid (argsP f b = if 1 ≤ f ∧ f ≤ 21 then (if b = 1 then fargs f else 0)
    else if f = 28 then (if b = 1 ∨ b = 2 then 1 else 0)
    else if 24 ≤ f ∧ f ≤ 32 then (if b = 1 ∨ b = 2 then 2 else 0)
    else if f = 33 ∨ f = 34 then (if b = 1 ∨ b = 2 ∨ b = 3 then 2 else 0)
    else if f = 35 then (if b = 3 then 1 else 0)
    else 0) := rfl
  have HF := hide (floatArgs_any f)
  have HB := hide (isBase_any b)
  generalize argsP f b = y at *
  generalize fargs f = z at *
  have hb : b = 1 ∨ b = 2 ∨ b = 3 ∨ (¬ b = 1 ∧ ¬ b = 2 ∧ ¬ b = 3) := by omega
  have hf : (1 ≤ f ∧ f ≤ 21) ∨ f = 28 ∨ (24 ≤ f ∧ f ≤ 27) ∨ (29 ≤ f ∧ f ≤ 32) ∨ f = 33 ∨ f = 34 ∨ f = 35 ∨ f < 1 ∨ (22 ≤ f ∧ f ≤ 23) ∨ 35 < f := by omega
  rcases hb with rfl | rfl | rfl | ⟨b1, b2, b3⟩
  all_goals
    rcases hf with ⟨h1, h2⟩ | rfl | ⟨h1, h2⟩ | ⟨h1, h2⟩ | rfl | rfl | rfl | h1 | ⟨h1, h2⟩ | h1
  all_goals
    try
      have b1' : (b == 1) = false := beq_eq_false_iff_ne.2 b1
      have b2' : (b == 2) = false := beq_eq_false_iff_ne.2 b2
      have b3' : (b == 3) = false := beq_eq_false_iff_ne.2 b3
      have bb : baseB b = false := by simp [baseB, b1', b2', b3']
  all_goals
    try have q28 : (f == 28) = false := beq_eq_false_iff_ne.2 (by omega)
    try have q33 : (f == 33) = false := beq_eq_false_iff_ne.2 (by omega)
    try have q34 : (f == 34) = false := beq_eq_false_iff_ne.2 (by omega)
    try have q35 : (f == 35) = false := beq_eq_false_iff_ne.2 (by omega)
    go_enter Tryz.func37, Tryz.ntmps37
    go_wp2_with (first | (go_at_call 63; refine (unhide HF _).mono ?_; rintro e w1 ⟨rfl, rfl⟩) | (go_at_call 64; refine (unhide HB _).mono ?_; rintro e w1 ⟨rfl, rfl⟩))
    go_ret
    refine ⟨?_, rfl⟩
    have e := unhide E2
    try simp at e
    first
    | (rw [e]; rfl)
    | (rw [if_pos (by omega)] at e; rw [e]; rfl)
    | (rw [if_neg (by omega), if_neg (by omega), if_pos (by omega)] at e; rw [e]; rfl)
    | (repeat first | rw [if_pos (by omega)] at e | rw [if_neg (by omega)] at e
       rw [e]; rfl)

set_option maxHeartbeats 1000000 in
theorem writes_any (I : Nat → Int) (w : World) : Calls Tryz.prog 134 #[.agg (insA I)] w fun e w' => e = .returned (.tuple #[.int .i64 (writI I), .bool (wrB (I 0))]) ∧ Ext w w' := by
  have c0 : (w.alloc (.cells (insA I) 59)).cell? ⟨w.heap.size, 0, none⟩ = some (.int .i64 (I 0)) := (Blk.new w _ _).cell rfl
  have c4 : (w.alloc (.cells (insA I) 59)).cell? ⟨w.heap.size, 4, none⟩ = some (.int .i64 (I 4)) := (Blk.new w _ _).cell rfl
  have E := hide (show writI I = if wrB (I 0) then I 4 else 0 from rfl)
  have E2 := hide (show wrB (I 0) = decide (I 0 = 1 ∨ I 0 = 2 ∨ I 0 = 3 ∨ I 0 = 5 ∨ I 0 = 6 ∨ I 0 = 7 ∨ I 0 = 8 ∨ I 0 = 9) from rfl)
  generalize writI I = y at *
  generalize wrB (I 0) = z at *
  generalize I 0 = o at *
  generalize I 4 = d at *
  go_enter Tryz.func134, Tryz.ntmps134
  go_wp2
  all_goals
    have e := unhide E2
    have e1 := unhide E
    simp only [beq_iff_eq, beq_eq_false_iff_ne, ne_eq] at *
    first
    | (rw [decide_eq_true (by omega)] at e; subst e; rw [if_pos rfl] at e1; subst e1; refine bodyPost_ret (v := .tuple #[.int .i64 y, .bool true]) (by simp [results, Tryz.results134, go_sem]) rfl ⟨rfl, (Ext.refl w).alloc _⟩)
    | (rw [decide_eq_false (by omega)] at e; subst e; rw [if_neg (by decide)] at e1; subst e1; refine bodyPost_ret (v := .tuple #[.int .i64 0, .bool false]) (by simp [results, Tryz.results134, go_sem]) rfl ⟨rfl, (Ext.refl w).alloc _⟩)
end Go.Proofs.YtglfhmlcmffoaaaGreat
