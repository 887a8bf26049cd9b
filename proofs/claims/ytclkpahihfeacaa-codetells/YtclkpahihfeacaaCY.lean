/-
  The document's Args, Writes, Reads. What the dump lacks is left out.
-/
import Derived.Test.YtclkpahihfeacaaCC
namespace Go.Proofs.Ytclkpahihfeacaa
open Go.RowKit
set_option linter.unusedVariables false
set_option linter.unusedSimpArgs false

set_option maxRecDepth 10000 in
set_option maxHeartbeats 8000000 in
theorem refArgs_any (f b : Int) (w : World) : Calls Try.prog 16 #[.int .i64 f, .int .i64 b] w fun e w' => e = .returned (.int .i64 (argsP f b : Int)) ∧ w' = w := by
  have E2 : Hid (argsP f b = if 1 ≤ f ∧ f ≤ 21 then (if b = 1 then fargs f else 0)
    else if f = 28 then (if b = 1 ∨ b = 2 then 1 else 0)
    else if 24 ≤ f ∧ f ≤ 32 then (if b = 1 ∨ b = 2 then 2 else 0)
    else if f = 33 ∨ f = 34 then (if b = 1 ∨ b = 2 ∨ b = 3 then 2 else 0)
    else if f = 35 then (if b = 3 then 1 else 0)
    else 0) := rfl
  have E3 : Hid (fargs f = if (12 ≤ f ∧ f ≤ 16) ∨ f = 19 ∨ f = 21 then 2 else if f = 17 ∨ f = 18 then 3 else 1) := rfl
  generalize argsP f b = y at *
  generalize fargs f = z at *
  have hb : b = 1 ∨ b = 2 ∨ b = 3 ∨ (¬ b = 1 ∧ ¬ b = 2 ∧ ¬ b = 3) := by omega
  have hf : (1 ≤ f ∧ f ≤ 11) ∨ (12 ≤ f ∧ f ≤ 16) ∨ f = 17 ∨ f = 18 ∨ f = 19 ∨ f = 20 ∨ f = 21 ∨ f = 28 ∨ (24 ≤ f ∧ f ≤ 27) ∨ (29 ≤ f ∧ f ≤ 32) ∨ f = 33 ∨ f = 34 ∨ f = 35 ∨ f < 1 ∨ (22 ≤ f ∧ f ≤ 23) ∨ 35 < f := by omega
  rcases hb with rfl | rfl | rfl | ⟨b1, b2, b3⟩
  all_goals
    rcases hf with ⟨h1, h2⟩ | ⟨h1, h2⟩ | rfl | rfl | rfl | rfl | rfl | rfl | ⟨h1, h2⟩ | ⟨h1, h2⟩ | rfl | rfl | rfl | h1 | ⟨h1, h2⟩ | h1
  all_goals
    try
      have b1' : (b == 1) = false := beq_eq_false_iff_ne.2 b1
      have b2' : (b == 2) = false := beq_eq_false_iff_ne.2 b2
      have b3' : (b == 3) = false := beq_eq_false_iff_ne.2 b3
  all_goals
    try have q17 : (f == 17) = false := beq_eq_false_iff_ne.2 (by omega)
    try have q18 : (f == 18) = false := beq_eq_false_iff_ne.2 (by omega)
    try have q19 : (f == 19) = false := beq_eq_false_iff_ne.2 (by omega)
    try have q20 : (f == 20) = false := beq_eq_false_iff_ne.2 (by omega)
    try have q21 : (f == 21) = false := beq_eq_false_iff_ne.2 (by omega)
    try have q28 : (f == 28) = false := beq_eq_false_iff_ne.2 (by omega)
    try have q33 : (f == 33) = false := beq_eq_false_iff_ne.2 (by omega)
    try have q34 : (f == 34) = false := beq_eq_false_iff_ne.2 (by omega)
    try have q35 : (f == 35) = false := beq_eq_false_iff_ne.2 (by omega)
    go_enter Try.func16, Try.ntmps16
    go_wp2
    go_ret
    refine ⟨?_, rfl⟩
    have e := unhide E2
    have e3 := unhide E3
    try simp at e
    try simp at e3
    first
    | (rw [e]; rfl)
    | (rw [e, e3]; rfl)
    | (repeat first | rw [if_pos (by omega)] at e | rw [if_neg (by omega)] at e
       repeat first | rw [if_pos (by omega)] at e3 | rw [if_neg (by omega)] at e3
       first | (rw [e]; rfl) | (rw [e, e3]; rfl))

set_option maxHeartbeats 1000000 in
theorem refWrites_any (I : Nat → Int) (w : World) : Calls Try.prog 40 #[.agg (insA I)] w fun e w' => e = .returned (.tuple #[.int .i64 (writI I), .bool (wrB (I 0))]) ∧ Ext w w' := by
  have c0 : (w.alloc (.cells (insA I) 42)).cell? ⟨w.heap.size, 0, none⟩ = some (.int .i64 (I 0)) := (Blk.new w _ _).cell rfl
  have c4 : (w.alloc (.cells (insA I) 42)).cell? ⟨w.heap.size, 4, none⟩ = some (.int .i64 (I 4)) := (Blk.new w _ _).cell rfl
  have E := hide (show writI I = if wrB (I 0) then I 4 else 0 from rfl)
  have E2 := hide (show wrB (I 0) = decide (I 0 = 1 ∨ I 0 = 2 ∨ I 0 = 3 ∨ I 0 = 5 ∨ I 0 = 6 ∨ I 0 = 7 ∨ I 0 = 8 ∨ I 0 = 9) from rfl)
  generalize writI I = y at *
  generalize wrB (I 0) = z at *
  generalize I 0 = o at *
  generalize I 4 = d at *
  go_enter Try.func40, Try.ntmps40
  go_wp2
  all_goals
    have e := unhide E2
    have e1 := unhide E
    simp only [beq_iff_eq, beq_eq_false_iff_ne, ne_eq] at *
    first
    | (rw [decide_eq_true (by omega)] at e; subst e; rw [if_pos rfl] at e1; subst e1; refine bodyPost_ret (v := .tuple #[.int .i64 y, .bool true]) (by simp [results, Try.results40, go_sem]) rfl ⟨rfl, (Ext.refl w).alloc _⟩)
    | (rw [decide_eq_false (by omega)] at e; subst e; rw [if_neg (by decide)] at e1; subst e1; refine bodyPost_ret (v := .tuple #[.int .i64 0, .bool false]) (by simp [results, Try.results40, go_sem]) rfl ⟨rfl, (Ext.refl w).alloc _⟩)

/-- What a call leaves that answers a row of numbers. -/
def RowI (w w' : World) (e : Ending) (xs : List Int) : Prop := ∃ ao cap, e = .returned (.slice ao xs.length cap) ∧ Row .i64 w' (.slice ao xs.length cap) xs ∧ Ext w w'

set_option maxRecDepth 10000 in
set_option maxHeartbeats 2000000 in
theorem refReads_other (I : Nat → Int) (w : World) (h5 : ¬ I 0 = 5) : Calls Try.prog 41 #[.agg (insA I)] w fun e w' => NewI w w' e (readsP I) := by
  obtain ⟨c0, c1, c2, c3, c4, c5, c6, c7⟩ := cellI I w 42
  have E := hide (show readsP I = if I 0 = 2 ∨ I 0 = 6 ∨ I 0 = 8 then [I 5] else if I 0 = 4 ∨ I 0 = 11 then [I 6] else if I 0 = 5 then [I 5, I 6, I 7].take (argsP (I 1) (I 2)) else if I 0 = 7 then [I 5, I 4] else if I 0 = 9 then [I 5, I 6] else [] from rfl)
  have d5 : (I 0 == 5) = false := beq_eq_false_iff_ne.2 h5
  generalize readsP I = y at *
  generalize I 0 = o at *
  generalize I 4 = a4 at *
  generalize I 5 = a5 at *
  generalize I 6 = a6 at *
  go_enter Try.func41, Try.ntmps41
  go_wp2
  all_goals
    go_ret
    have e := unhide E
    simp only [beq_iff_eq, beq_eq_false_iff_ne, ne_eq] at *
    repeat first | rw [if_pos (by omega)] at e | rw [if_neg (by omega)] at e
    subst e
    first
    | exact ⟨none, 0, rfl, Own.nil _ _ _ _, (Ext.refl w).alloc _⟩
    | exact NewI.of w _ [a5] (by simp)
    | exact NewI.of w _ [a6] (by simp)
    | exact NewI.of w _ [a5, a4] (by simp)
    | exact NewI.of w _ [a5, a6] (by simp)

set_option maxRecDepth 10000 in
set_option maxHeartbeats 2000000 in
theorem refReads_do (I : Nat → Int) (w : World) (h5 : I 0 = 5) : Calls Try.prog 41 #[.agg (insA I)] w fun e w' => RowI w w' e (readsP I) := by
  obtain ⟨c0, c1, c2, c3, c4, c5, c6, c7⟩ := cellI I w 42
  have E := hide (show readsP I = [I 5, I 6, I 7].take (argsP (I 1) (I 2)) by simp [readsP, h5])
  have HA := hide (refArgs_any (I 1) (I 2))
  have hle := argsP_le (I 1) (I 2)
  rw [h5] at c0
  generalize argsP (I 1) (I 2) = n at *
  have hX0 := (Ext.refl w).alloc (.cells (insA I) 42)
  generalize readsP I = y at *
  have d1 := c1
  have d2 := c2
  generalize I 1 = a1 at *
  generalize I 2 = a2 at *
  generalize I 5 = a5 at *
  generalize I 6 = a6 at *
  generalize I 7 = a7 at *
  generalize insA I = cs at *
  clear c3 c4 h5
  have X0 := hide hX0
  clear hX0
  have hsz : (w.alloc (.cells cs 42)).heap.size = w.heap.size + 1 := by simp
  have HZ := hide hsz
  clear hsz
  have hwx : w.heap.size + 1 = w.heap.size + 1 := rfl
  have HC : Hid (∀ wx, Ext (w.alloc (.cells cs 42)) wx → Ext w wx) := fun wx h => (unhide X0).trans h
  have hn : n = 0 ∨ n = 1 ∨ n = 2 ∨ n = 3 := by omega
  rw [← show ((Int.ofNat n) = (n : Int)) from rfl] at HA
  obtain ⟨m, hm⟩ : ∃ m : Int, Int.ofNat n = m := ⟨_, rfl⟩
  rw [hm] at HA
  have HCL : Hid (∀ wx, Ext (w.alloc (.cells cs 42)) wx → wx.cell? ⟨w.heap.size, 1, none⟩ = some (.int .i64 a1) ∧ wx.cell? ⟨w.heap.size, 2, none⟩ = some (.int .i64 a2) ∧ wx.cell? ⟨w.heap.size, 5, none⟩ = some (.int .i64 a5) ∧ wx.cell? ⟨w.heap.size, 6, none⟩ = some (.int .i64 a6) ∧ wx.cell? ⟨w.heap.size, 7, none⟩ = some (.int .i64 a7)) := fun wx hx => by
    have hc : ∀ j u, (w.alloc (.cells cs 42)).cell? ⟨w.heap.size, j, none⟩ = some u → wx.cell? ⟨w.heap.size, j, none⟩ = some u := fun j u hu => by
      rw [hx.cell (p := ⟨w.heap.size, j, none⟩) (World.block_lt_of_cell? _ _ hu)]
      exact hu
    exact ⟨hc _ _ c1, hc _ _ c2, hc _ _ c5, hc _ _ c6, hc _ _ c7⟩
  rcases hn with rfl | rfl | rfl | rfl
  · obtain rfl : m = 0 := hm.symm
    have HP := hide (fun (wx : World) (g : Nat) h => Row.pre3 (w := wx) (g := g) (a := a5) (b := a6) (c := a7) (t := 3) h 0 hle)
    simp only [List.take_succ_cons, List.take_zero] at HP E
    go_enter Try.func41, Try.ntmps41
    go_wp2
    go_region_held3 (fun wx => wx.cell? ⟨w.heap.size, 1, none⟩ = some (.int .i64 a1) ∧ wx.cell? ⟨w.heap.size, 2, none⟩ = some (.int .i64 a2) ∧ wx.cell? ⟨w.heap.size, 5, none⟩ = some (.int .i64 a5) ∧ wx.cell? ⟨w.heap.size, 6, none⟩ = some (.int .i64 a6) ∧ wx.cell? ⟨w.heap.size, 7, none⟩ = some (.int .i64 a7))
      (first | with_reducible exact unhide HCL _ ((Ext.refl _).drew) | with_reducible exact unhide HCL _ (((Ext.refl _).alloc _).drew))
      (first
        | (go_at_call 16; refine (unhide HA _).mono ?_; rintro e w1 ⟨rfl, rfl⟩))
    all_goals
      go_wp2
      go_ret
      rw [unhide E]
      exact ⟨_, _, rfl, unhide HP _ _ (Blk.here (w := w.alloc (.cells cs 42)) (by simp)), unhide HC _ (((Ext.refl _).alloc _).drew)⟩
  · obtain rfl : m = 1 := hm.symm
    have HP := hide (fun (wx : World) (g : Nat) h => Row.pre3 (w := wx) (g := g) (a := a5) (b := a6) (c := a7) (t := 3) h 1 hle)
    simp only [List.take_succ_cons, List.take_zero] at HP E
    go_enter Try.func41, Try.ntmps41
    go_wp2
    go_region_held3 (fun wx => wx.cell? ⟨w.heap.size, 1, none⟩ = some (.int .i64 a1) ∧ wx.cell? ⟨w.heap.size, 2, none⟩ = some (.int .i64 a2) ∧ wx.cell? ⟨w.heap.size, 5, none⟩ = some (.int .i64 a5) ∧ wx.cell? ⟨w.heap.size, 6, none⟩ = some (.int .i64 a6) ∧ wx.cell? ⟨w.heap.size, 7, none⟩ = some (.int .i64 a7))
      (first | with_reducible exact unhide HCL _ ((Ext.refl _).drew) | with_reducible exact unhide HCL _ (((Ext.refl _).alloc _).drew))
      (first
        | (go_at_call 16; refine (unhide HA _).mono ?_; rintro e w1 ⟨rfl, rfl⟩))
    all_goals
      go_wp2
      go_ret
      rw [unhide E]
      exact ⟨_, _, rfl, unhide HP _ _ (Blk.here (w := w.alloc (.cells cs 42)) (by simp)), unhide HC _ (((Ext.refl _).alloc _).drew)⟩
  · obtain rfl : m = 2 := hm.symm
    have HP := hide (fun (wx : World) (g : Nat) h => Row.pre3 (w := wx) (g := g) (a := a5) (b := a6) (c := a7) (t := 3) h 2 hle)
    simp only [List.take_succ_cons, List.take_zero] at HP E
    go_enter Try.func41, Try.ntmps41
    go_wp2
    go_region_held3 (fun wx => wx.cell? ⟨w.heap.size, 1, none⟩ = some (.int .i64 a1) ∧ wx.cell? ⟨w.heap.size, 2, none⟩ = some (.int .i64 a2) ∧ wx.cell? ⟨w.heap.size, 5, none⟩ = some (.int .i64 a5) ∧ wx.cell? ⟨w.heap.size, 6, none⟩ = some (.int .i64 a6) ∧ wx.cell? ⟨w.heap.size, 7, none⟩ = some (.int .i64 a7))
      (first | with_reducible exact unhide HCL _ ((Ext.refl _).drew) | with_reducible exact unhide HCL _ (((Ext.refl _).alloc _).drew))
      (first
        | (go_at_call 16; refine (unhide HA _).mono ?_; rintro e w1 ⟨rfl, rfl⟩))
    all_goals
      go_wp2
      go_ret
      rw [unhide E]
      exact ⟨_, _, rfl, unhide HP _ _ (Blk.here (w := w.alloc (.cells cs 42)) (by simp)), unhide HC _ (((Ext.refl _).alloc _).drew)⟩
  · obtain rfl : m = 3 := hm.symm
    have HP := hide (fun (wx : World) (g : Nat) h => Row.pre3 (w := wx) (g := g) (a := a5) (b := a6) (c := a7) (t := 3) h 3 hle)
    simp only [List.take_succ_cons, List.take_zero] at HP E
    go_enter Try.func41, Try.ntmps41
    go_wp2
    go_region_held3 (fun wx => wx.cell? ⟨w.heap.size, 1, none⟩ = some (.int .i64 a1) ∧ wx.cell? ⟨w.heap.size, 2, none⟩ = some (.int .i64 a2) ∧ wx.cell? ⟨w.heap.size, 5, none⟩ = some (.int .i64 a5) ∧ wx.cell? ⟨w.heap.size, 6, none⟩ = some (.int .i64 a6) ∧ wx.cell? ⟨w.heap.size, 7, none⟩ = some (.int .i64 a7))
      (first | with_reducible exact unhide HCL _ ((Ext.refl _).drew) | with_reducible exact unhide HCL _ (((Ext.refl _).alloc _).drew))
      (first
        | (go_at_call 16; refine (unhide HA _).mono ?_; rintro e w1 ⟨rfl, rfl⟩))
    all_goals
      go_wp2
      go_ret
      rw [unhide E]
      exact ⟨_, _, rfl, unhide HP _ _ (Blk.here (w := w.alloc (.cells cs 42)) (by simp)), unhide HC _ (((Ext.refl _).alloc _).drew)⟩

theorem refReads_any (I : Nat → Int) (w : World) : Calls Try.prog 41 #[.agg (insA I)] w fun e w' => RowI w w' e (readsP I) := by
  by_cases h : I 0 = 5
  · exact refReads_do I w h
  · refine (refReads_other I w h).mono ?_
    rintro e w' ⟨ao, cap, rfl, ho, hx⟩
    exact ⟨ao, cap, rfl, ho.row, hx⟩
end Go.Proofs.Ytclkpahihfeacaa
