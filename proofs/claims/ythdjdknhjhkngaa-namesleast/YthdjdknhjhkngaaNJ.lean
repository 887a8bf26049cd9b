/-
  Rows of what is done with names: what they hold; the walks of kind, few and wakes.
-/
import Derived.Test.YthdjdknhjhkngaaNG
namespace Go.Proofs.Ythdjdknhjhkngaa
open Go.RowKit

/-- The slice value v holds pairs of numbers. -/
def ORow (w : World) (v : Value) (xs : List (Int × Int)) : Prop :=
  ∃ ao cap, v = .slice ao xs.length cap ∧ xs.length ≤ cap ∧ cap ≤ maxLen ∧ (ao = none → cap = 0) ∧
    ∀ i (hi : i < xs.length), ∃ b off, ao = some ⟨b, off, none⟩ ∧ w.cell? ⟨b, off + i * 2, none⟩ = some (.int .i64 xs[i].1) ∧ w.cell? ⟨b, off + i * 2 + 1, none⟩ = some (.int .i64 xs[i].2)
theorem ORow.ext {w w' : World} {v : Value} {xs : List (Int × Int)} (h : ORow w v xs) (hb : Ext w w') : ORow w' v xs := by
  obtain ⟨ao, cap, rfl, h1, h2, h3, h4⟩ := h
  refine ⟨ao, cap, rfl, h1, h2, h3, fun i hi => ?_⟩
  obtain ⟨b, off, e, c1, c2⟩ := h4 i hi
  exact ⟨b, off, e, (hb.cell (p := ⟨b, off + i * 2, none⟩) (World.block_lt_of_cell? w _ c1)).trans c1, (hb.cell (p := ⟨b, off + i * 2 + 1, none⟩) (World.block_lt_of_cell? w _ c2)).trans c2⟩
theorem ORow.at {w : World} {ao : Option Addr} {n cap : Nat} {xs : List (Int × Int)} (h : ORow w (.slice ao n cap) xs) (i : Nat) (hi : i < xs.length) : ∃ b off, ao = some ⟨b, off, none⟩ ∧ w.cell? ⟨b, off + i * 2, none⟩ = some (.int .i64 xs[i].1) ∧ w.cell? ⟨b, off + i * 2 + 1, none⟩ = some (.int .i64 xs[i].2) := by
  obtain ⟨ao', cap', e, _, _, _, h4⟩ := h
  cases e
  exact h4 i hi

/-- Which of the three an op's kind is. -/
def kindI (K : Int) : Int := if K % 4 = 0 then 0 else if K % 4 = 3 then 2 else 1

theorem kinds_at (w : World) :
    (Instr.index 64 (.agg #[.int .i64 0, .int .i64 1, .int .i64 1, .int .i64 2]) (.int .u64 0)).run Try.prog w = .ok (.int .i64 0) w ∧
    (Instr.index 64 (.agg #[.int .i64 0, .int .i64 1, .int .i64 1, .int .i64 2]) (.int .u64 1)).run Try.prog w = .ok (.int .i64 1) w ∧
    (Instr.index 64 (.agg #[.int .i64 0, .int .i64 1, .int .i64 1, .int .i64 2]) (.int .u64 2)).run Try.prog w = .ok (.int .i64 1) w ∧
    (Instr.index 64 (.agg #[.int .i64 0, .int .i64 1, .int .i64 1, .int .i64 2]) (.int .u64 3)).run Try.prog w = .ok (.int .i64 2) w :=
  ⟨by kernel_rfl, by kernel_rfl, by kernel_rfl, by kernel_rfl⟩
theorem kind_mod (K : Int) : (IntKind.u64.wrap K).tmod 4 = K % 4 := by
  have h : IntKind.u64.wrap K = K % 18446744073709551616 := by simp [IntKind.wrap, IntKind.bits, IntKind.signed]
  rw [h, Int.tmod_eq_emod_of_nonneg (Int.emod_nonneg _ (by decide))]
  omega

set_option maxHeartbeats 1000000 in
theorem kind_any (K N : Int) (w : World) :
    Calls Try.prog 22 #[.agg #[.int .i64 K, .int .i64 N]] w fun e w' => e = .returned (.int .i64 (kindI K)) ∧ Ext w w' := by
  have hm := kind_mod K
  have k0 := fun w => (kinds_at w).1
  have k1 := fun w => (kinds_at w).2.1
  have k2 := fun w => (kinds_at w).2.2.1
  have k3 := fun w => (kinds_at w).2.2.2
  have hr : K % 4 = 0 ∨ K % 4 = 1 ∨ K % 4 = 2 ∨ K % 4 = 3 := by omega
  rcases hr with hr | hr | hr | hr
  all_goals
    rw [hr] at hm
    have HK := hide hr
    clear hr
    go_enter Try.func22, Try.ntmps22
    go_wp2
    go_ret
    exact ⟨by unfold kindI; rw [unhide HK]; rfl, (Ext.refl w).alloc _⟩

set_option maxHeartbeats 1000000 in
theorem few_any (v : Value) (xs : List (Int × Int)) (w : World) (h : ORow w v xs) :
    Calls Try.prog 10 #[v] w fun e w' => ∃ ao cap, e = .returned (.slice ao (xs.take 200).length cap) ∧ ORow w (.slice ao (xs.take 200).length cap) (xs.take 200) ∧ w' = w := by
  obtain ⟨ao, cap, rfl, h1, h2, h3, h4⟩ := h
  have fin : ORow w (.slice ao (xs.take 200).length cap) (xs.take 200) := ⟨ao, cap, rfl, by rw [List.length_take]; omega, h2, h3, fun i hi => by
    rw [List.length_take] at hi
    obtain ⟨b, off, e, c1, c2⟩ := h4 i (by omega)
    refine ⟨b, off, e, ?_, ?_⟩
    · rw [List.getElem_take]; exact c1
    · rw [List.getElem_take]; exact c2⟩
  have FIN := hide fin
  clear h4 fin
  unfold maxLen at h2
  cases ao with
  | none =>
    have hc := h3 rfl
    have hx : xs = [] := List.eq_nil_of_length_eq_zero (by omega)
    subst hx hc
    go_enter Try.func10, Try.ntmps10
    go_wp2
    go_ret
    exact ⟨none, 0, rfl, unhide FIN, rfl⟩
  | some a =>
    by_cases hl : xs.length < 200
    · have e : (xs.take 200).length = xs.length := by rw [List.length_take]; omega
      rw [e] at FIN ⊢
      go_enter Try.func10, Try.ntmps10
      go_wp2
      all_goals (go_ret; exact ⟨some a, cap, rfl, unhide FIN, rfl⟩)
    · have e : (xs.take 200).length = 200 := by rw [List.length_take]; omega
      rw [e] at FIN ⊢
      go_enter Try.func10, Try.ntmps10
      go_wp2
      · go_ret
        exact ⟨some a, cap, rfl, unhide FIN, rfl⟩
      · go_ret
        have h200 : xs.length = 200 := by omega
        refine ⟨some a, cap, ?_, unhide FIN, rfl⟩
        show Ending.returned (Value.slice (some a) xs.length cap) = _
        rw [h200]

set_option maxRecDepth 100000 in
set_option maxHeartbeats 2000000 in
theorem wakes_any (w : World) :
    Calls Try.prog 8 #[] w fun e w' => e = .returned (.bool true) ∧ Ext w w' := by
  go_enter Try.func8, Try.ntmps8
  go_wp2_with fail
  refine (new_any _).mono ?_
  rintro e w1 ⟨rfl, rfl⟩
  have hb : Blk (w.alloc (.cells (nms .u8 nul 0) 55)) w.heap.size (nms .u8 nul 0) 55 := Blk.at rfl
  have hx : Ext w (w.alloc (.cells (nms .u8 nul 0) 55)) := (Ext.refl w).alloc _
  generalize (w.alloc (.cells (nms .u8 nul 0) 55)) = W1 at hb hx ⊢
  have hsz := hb.lt
  go_wp2_with fail
  refine (gen_any w.heap.size nul 0 2 _ hb).mono ?_
  have hN : genN nul 2 = 2 := by decide
  have hE : genE nul 2 = 0 := by decide
  have hG : genL nul 2 = [1, 2] := by decide
  rw [hN, hE, hG]
  rintro e w2 ⟨ao, cap, rfl, hown, hb2, hg2⟩
  obtain ⟨lb, lo, rfl, hcell⟩ := hown.row.at 1 (by decide)
  have hc1 := hcell 1 (by decide)
  have hc1' : w2.cell? ⟨lb, lo + 1, none⟩ = some (.int .i64 2) := hc1
  have hlb := World.block_lt_of_cell? w2 _ hc1'
  have hne : lb ≠ w.heap.size := by
    have := hown.lt lb rfl
    omega
  have hx2 : Ext w w2 := Below.grown hx hg2 (Nat.le_of_lt hsz) (fun k e => by cases e; exact Nat.le_refl _)
  clear hcell hc1 hown hb hx hg2
  have HH := hide hx2
  clear hx2
  go_wp2_with fail
  refine (bind_any w.heap.size _ 0 1 _ hb2).mono ?_
  have hM : bndM (setL nul [1, 2]) 1 = true := by decide
  have hR : refI 1 = 0 := by decide
  have hBB : bndB 0 1 = 1 := by decide
  rw [hM, hR, hBB]
  rintro e w3 ⟨rfl, hb3, hg3⟩
  have hc2 : w3.cell? ⟨lb, lo + 1, none⟩ = some (.int .i64 2) := hg3.cell hc1' (by simp; omega)
  have hx3 : Ext w w3 := Below.grown (unhide HH) hg3 (unhide HH).size (fun k e => by cases e; exact Nat.le_refl _)
  have s1 : (stI (bndS (setL nul [1, 2]) 1) 1 == 2) = true := by decide
  have s2 : (stI (bndS (setL nul [1, 2]) 1) 2 == 2) = false := by decide
  have s3 : (stI (bndS (setL nul [1, 2]) 1) 2 != 0) = true := by decide
  have HX := hide hx3
  clear hx3 HH hc1' hg3 hb2 hne
  have HB3 := hide hb3
  clear hb3
  go_wp2_with (first
    | (go_at_call 19; refine (is_any w.heap.size _ 1 _ _ (unhide HB3)).mono ?_; rintro e w4 ⟨rfl, rfl⟩)
    | (go_at_call 20; refine (used_any w.heap.size _ 1 _ _ (unhide HB3)).mono ?_; rintro e w4 ⟨rfl, rfl⟩)
    | (go_at_call 18; refine (bound_any w.heap.size _ 1 _ (unhide HB3)).mono ?_; rintro e w4 ⟨rfl, rfl⟩))
  go_ret
  exact ⟨rfl, unhide HX⟩
end Go.Proofs.Ythdjdknhjhkngaa
