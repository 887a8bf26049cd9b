/-
  The document's names: the walks of Right, Left, Bind, Delete.
-/
import Derived.Test.YthdjdknhjhkngaaNG
namespace Go.Proofs.Ythdjdknhjhkngaa
open Go.RowKit

theorem size_ref : (Try.prog.info? 28).map (·.size) = some 66 := by kernel_rfl
theorem zero_ref : ∀ w, (zeroValue 28).run Try.prog w = .ok (.agg (nms .i64 nul 0)) w := run_zero (by kernel_rfl)

set_option maxHeartbeats 1000000 in
theorem right_any (n : Int) (w : World) :
    Calls Try.prog 31 #[.int .i64 n] w fun e w' => e = .returned (.bool (refI n == 0)) ∧ w' = w := by
  go_enter Try.func31, Try.ntmps31
  by_cases h0 : n < 0
  · have H : Hid ((refI n == 0) = false) := by rw [refI_bad (.inl h0)]; exact hide rfl
    go_wp2
    go_ret
    exact ⟨by rw [unhide H]; rfl, rfl⟩
  · by_cases h1 : 64 < n
    · have H : Hid ((refI n == 0) = false) := by rw [refI_bad (.inr h1)]; exact hide rfl
      have hd : decide (n ≤ 64) = false := by simp; omega
      go_wp2
      go_ret
      exact ⟨by rw [unhide H]; rfl, rfl⟩
    · have H : Hid ((refI n == 0) = true) := by rw [refI_ok (by omega) (by omega)]; exact hide rfl
      go_wp2
      go_ret
      exact ⟨by rw [unhide H]; rfl, rfl⟩

set_option maxHeartbeats 1000000 in
theorem refLeft_any (s : Nat → Int) (b : Int) (w : World) :
    Calls Try.prog 26 #[.agg (nms .i64 s b)] w fun e w' => e = .returned (.int .i64 ((sel s 0 64).length : Int)) ∧ w' = w.alloc (.cells (nms .i64 s b) 28) := by
  go_enter Try.func26, Try.ntmps26
  have hb : Blk (w.alloc (.cells (nms .i64 s b) 28)) w.heap.size (nms .i64 s b) 28 := Blk.at rfl
  obtain ⟨W0, hW0⟩ : ∃ W0, w.alloc (.cells (nms .i64 s b) 28) = W0 := ⟨_, rfl⟩
  have HB := hide hb
  have HW := hide hW0
  clear hb hW0
  go_wp2
  rw [unhide HW]
  go_loopw [9, 3] (fun i v wr => ∃ k : Nat, k ≤ 64 ∧ i = .int .i64 (k : Int) ∧ v = .int .i64 ((sel s 0 k).length : Int) ∧ wr = W0) (fun i _ _ => 64 - (intOf i).toNat)
  case atStart => exact ⟨0, by omega, rfl, rfl, rfl⟩
  case round =>
    obtain ⟨k, hk, rfl, rfl, rfl⟩ := hrel
    have hsb := sel_bound s 0 k
    by_cases hlt : k < 64
    · have hk2 : (k : Int) < 64 := by omega
      have ck := (unhide HB).cell (nms_get .i64 s b (i := 1 + k) (by omega))
      rw [unhide HW] at ck
      by_cases heq : s (1 + k) = 0
      · have hd : (s (1 + k) == 0) = true := by simp [heq]
        have HQ := hide heq
        clear heq
        go_wp2
        go_roundw
        case rel => exact ⟨k + 1, by omega, by go_num, by rw [sel_yes (by rw [Nat.add_comm]; exact unhide HQ), List.length_append]; go_num, trivial⟩
        case measure => simp [intOf]; omega
      · have hd : (s (1 + k) == 0) = false := by simp [heq]
        have HQ := hide heq
        clear heq
        go_wp2
        go_roundw
        case rel => exact ⟨k + 1, by omega, by go_num, by rw [sel_no (by rw [Nat.add_comm]; exact unhide HQ)], trivial⟩
        case measure => simp [intOf]; omega
    · obtain rfl : k = 64 := by omega
      go_wp2
      go_ret
      exact ⟨rfl, (unhide HW).symm⟩

set_option maxRecDepth 100000 in
set_option maxHeartbeats 2000000 in
theorem refBind_any (s : Nat → Int) (b n : Int) (w : World) :
    Calls Try.prog 24 #[.agg (nms .i64 s b), .int .i64 n] w fun e w' => e = .returned (.tuple #[.agg (nms .i64 (bndS s n) (bndB b n)), .bool (bndM s n), .int .i64 (refI n)]) ∧ Ext w w' := by
  have hz := zero_ref
  go_enter Try.func24, Try.ntmps24
  go_wp2_with fail
  refine (right_any n _).mono ?_
  rintro e w1 ⟨rfl, rfl⟩
  have h0 : Blk ((w.alloc (.cells (nms .i64 s b) 28)).alloc (.cells (nms .i64 nul 0) 28)) w.heap.size (nms .i64 s b) 28 := (Blk.at rfl).alloc _
  have h1 : Blk ((w.alloc (.cells (nms .i64 s b) 28)).alloc (.cells (nms .i64 nul 0) 28)) (w.heap.size + 1) (nms .i64 nul 0) 28 := Blk.at (by simp)
  have hx : Ext w ((w.alloc (.cells (nms .i64 s b) 28)).alloc (.cells (nms .i64 nul 0) 28)) := ((Ext.refl w).alloc _).alloc _
  generalize ((w.alloc (.cells (nms .i64 s b) 28)).alloc (.cells (nms .i64 nul 0) 28)) = W0 at h0 h1 hx ⊢
  by_cases h : n < 0 ∨ 64 < n
  · have hr : (refI n == 0) = false := by rw [refI_bad h]; rfl
    have hr2 := refI_bad h
    have e1 : bndM s n = false := by unfold bndM; rw [decide_eq_false (by omega), Bool.false_and]
    have e2 : bndS s n = s := by unfold bndS; rw [if_neg (by omega)]
    have e3 : bndB b n = b := by unfold bndB; rw [if_neg (by omega)]
    have HE := hide (And.intro e1 (And.intro e2 (And.intro e3 hr2)))
    have H := hide (And.intro h0 (And.intro h1 hx))
    clear e1 e2 e3 hr2 h0 h1 hx h
    go_wp2_with (first
      | refine wpList_load_row rfl 28 (.tmp 2) rfl w.heap.size rfl 28 (nms .i64 s b) (0, 0) _ ((unhide H).1) Try.underlying28 rfl (by rw [nms_size]; exact size_ref) ?_
      | refine wpList_store_row rfl 28 (.tmp 4) (.tmp 11) rfl (w.heap.size + 1) (nms .i64 s b) rfl rfl 28 (nms .i64 nul 0) ((unhide H).2.1) (by rw [nms_size]; exact size_ref) (by rw [nms_size, nms_size]) (nms_one _ _ _) ?_)
    refine bodyPost_ret (v := .tuple #[.agg (nms .i64 s b), .bool false, .int .i64 2]) (results_cell_tmp2 Try.results24 _ _ (w.heap.size + 1) 28 _ _ rfl _ _ rfl rfl (((unhide H).2.1).row) Try.underlying28 rfl (by rw [nms_size]; exact size_ref)) rfl ⟨by rw [(unhide HE).1, (unhide HE).2.1, (unhide HE).2.2.1, (unhide HE).2.2.2], ext_row ((unhide H).2.2) (by omega)⟩
  · obtain ⟨k, rfl⟩ := Int.eq_ofNat_of_zero_le (show 0 ≤ n by omega)
    have hr : (refI k == 0) = true := by rw [refI_ok (by omega) (by omega)]; rfl
    have hr2 := refI_ok (n := (k : Int)) (by omega) (by omega)
    have hk : k < 65 := by omega
    have hk2 : (k : Int) < 65 := by omega
    have hB0 : bndB b k = k := by unfold bndB; rw [if_pos (by omega)]
    have c65 := h0.cell (nms_bound .i64 s b)
    have f65 := h0.free 65
    have hb2 := h0.set 65 (.int .i64 (k : Int))
    rw [nms_setB] at hb2
    have h1b := h1.other (r := w.heap.size) 65 (.int .i64 (k : Int)) (by omega)
    have hx2 : Ext w (W0.setCell ⟨w.heap.size, 65, none⟩ (.int .i64 (k : Int))) := hx.setCell (p := ⟨w.heap.size, 65, none⟩) (Nat.le_refl _) _
    by_cases hk0 : k = 0
    · subst hk0
      have e1 : bndM s ((0 : Nat) : Int) = false := by unfold bndM; rw [decide_eq_false (by omega), Bool.false_and]
      have e2 : bndS s ((0 : Nat) : Int) = s := by unfold bndS; rw [if_neg (by omega)]
      have HE := hide (And.intro e1 (And.intro e2 (And.intro hB0 hr2)))
      have H := hide (And.intro hb2 (And.intro h1b hx2))
      clear e1 e2 hB0 hr2 h0 h1 hx h hb2 h1b hx2
      go_wp2_with (first
        | refine wpList_load_row rfl 28 (.tmp 2) rfl w.heap.size rfl 28 (nms .i64 s ((0 : Nat) : Int)) (0, 0) _ ((unhide H).1) Try.underlying28 rfl (by rw [nms_size]; exact size_ref) ?_
        | refine wpList_store_row rfl 28 (.tmp 4) (.tmp 16) rfl (w.heap.size + 1) (nms .i64 s ((0 : Nat) : Int)) rfl rfl 28 (nms .i64 nul 0) ((unhide H).2.1) (by rw [nms_size]; exact size_ref) (by rw [nms_size, nms_size]) (nms_one _ _ _) ?_)
      refine bodyPost_ret (v := .tuple #[.agg (nms .i64 s ((0 : Nat) : Int)), .bool false, .int .i64 0]) (results_cell_tmp2 Try.results24 _ _ (w.heap.size + 1) 28 _ _ rfl _ _ rfl rfl (((unhide H).2.1).row) Try.underlying28 rfl (by rw [nms_size]; exact size_ref)) rfl ⟨by rw [(unhide HE).1, (unhide HE).2.1, (unhide HE).2.2.1, (unhide HE).2.2.2], ext_row ((unhide H).2.2) (by omega)⟩
    · have hd : ((k : Int) == 0) = false := by simp; omega
      have ck := hb2.cell (nms_get .i64 s k hk)
      have fk := hb2.free k
      have hb3 := hb2.set k (.int .i64 2)
      rw [nms_set _ _ _ hk] at hb3
      have h1c := h1b.other (r := w.heap.size) k (.int .i64 2) (by omega)
      have hx3 := hx2.setCell (p := ⟨w.heap.size, k, none⟩) (Nat.le_refl _) (.int .i64 2)
      have e1 := bndM_nat s (k := k) (by omega) (by omega)
      have e2 := bndS_nat s (k := k) (by omega) (by omega)
      have HE := hide (And.intro e1 (And.intro e2 (And.intro hB0 hr2)))
      have H := hide (And.intro hb3 (And.intro h1c hx3))
      clear e1 e2 hB0 hr2 h0 h1 hx h hb2 h1b hx2 hb3 h1c hx3
      go_wp2_with (first
        | refine wpList_load_row rfl 28 (.tmp 2) rfl w.heap.size rfl 28 (nms .i64 (upd s k 2) (k : Int)) (0, 0) _ ((unhide H).1) Try.underlying28 rfl (by rw [nms_size]; exact size_ref) ?_
        | refine wpList_store_row rfl 28 (.tmp 4) (.tmp 25) rfl (w.heap.size + 1) (nms .i64 (upd s k 2) (k : Int)) rfl rfl 28 (nms .i64 nul 0) ((unhide H).2.1) (by rw [nms_size]; exact size_ref) (by rw [nms_size, nms_size]) (nms_one _ _ _) ?_)
      refine bodyPost_ret (v := .tuple #[.agg (nms .i64 (upd s k 2) (k : Int)), .bool (s k != 2), .int .i64 0]) (results_cell_tmp2 Try.results24 _ _ (w.heap.size + 1) 28 _ _ rfl _ _ rfl rfl (((unhide H).2.1).row) Try.underlying28 rfl (by rw [nms_size]; exact size_ref)) rfl ⟨by rw [(unhide HE).1, (unhide HE).2.1, (unhide HE).2.2.1, (unhide HE).2.2.2], ext_row ((unhide H).2.2) (by omega)⟩

set_option maxRecDepth 100000 in
set_option maxHeartbeats 2000000 in
theorem refDelete_any (s : Nat → Int) (b n : Int) (w : World) (hS : Sane s b) :
    Calls Try.prog 25 #[.agg (nms .i64 s b), .int .i64 n] w fun e w' => e = .returned (.tuple #[.agg (nms .i64 (delS s n) (delB b n)), .bool (stI s n == 2), .int .i64 (refI n)]) ∧ Ext w w' := by
  have hz := zero_ref
  go_enter Try.func25, Try.ntmps25
  go_wp2_with fail
  refine (right_any n _).mono ?_
  rintro e w1 ⟨rfl, rfl⟩
  have h0 : Blk ((w.alloc (.cells (nms .i64 s b) 28)).alloc (.cells (nms .i64 nul 0) 28)) w.heap.size (nms .i64 s b) 28 := (Blk.at rfl).alloc _
  have h1 : Blk ((w.alloc (.cells (nms .i64 s b) 28)).alloc (.cells (nms .i64 nul 0) 28)) (w.heap.size + 1) (nms .i64 nul 0) 28 := Blk.at (by simp)
  have hx : Ext w ((w.alloc (.cells (nms .i64 s b) 28)).alloc (.cells (nms .i64 nul 0) 28)) := ((Ext.refl w).alloc _).alloc _
  generalize ((w.alloc (.cells (nms .i64 s b) 28)).alloc (.cells (nms .i64 nul 0) 28)) = W0 at h0 h1 hx ⊢
  by_cases h : n < 0 ∨ 64 < n
  · have hr : (refI n == 0) = false := by rw [refI_bad h]; rfl
    have hr2 := refI_bad h
    have := hS.blow
    have := hS.bhigh
    have e1 : (stI s n == 2) = false := by rw [stI_bad s h]; rfl
    have e2 : delS s n = s := by unfold delS; rw [if_neg (by omega)]
    have e3 : delB b n = b := by unfold delB; rw [if_neg (by omega)]
    have HE := hide (And.intro e1 (And.intro e2 (And.intro e3 hr2)))
    have H := hide (And.intro h0 (And.intro h1 hx))
    clear e1 e2 e3 hr2 h0 h1 hx h
    go_wp2_with (first
      | refine wpList_load_row rfl 28 (.tmp 2) rfl w.heap.size rfl 28 (nms .i64 s b) (0, 0) _ ((unhide H).1) Try.underlying28 rfl (by rw [nms_size]; exact size_ref) ?_
      | refine wpList_store_row rfl 28 (.tmp 4) (.tmp 11) rfl (w.heap.size + 1) (nms .i64 s b) rfl rfl 28 (nms .i64 nul 0) ((unhide H).2.1) (by rw [nms_size]; exact size_ref) (by rw [nms_size, nms_size]) (nms_one _ _ _) ?_)
    refine bodyPost_ret (v := .tuple #[.agg (nms .i64 s b), .bool false, .int .i64 2]) (results_cell_tmp2 Try.results25 _ _ (w.heap.size + 1) 28 _ _ rfl _ _ rfl rfl (((unhide H).2.1).row) Try.underlying28 rfl (by rw [nms_size]; exact size_ref)) rfl ⟨by rw [(unhide HE).1, (unhide HE).2.1, (unhide HE).2.2.1, (unhide HE).2.2.2], ext_row ((unhide H).2.2) (by omega)⟩
  · obtain ⟨k, rfl⟩ := Int.eq_ofNat_of_zero_le (show 0 ≤ n by omega)
    have hr : (refI k == 0) = true := by rw [refI_ok (by omega) (by omega)]; rfl
    have hr2 := refI_ok (n := (k : Int)) (by omega) (by omega)
    have hk : k < 65 := by omega
    have hk2 : (k : Int) < 65 := by omega
    by_cases hk0 : k = 0
    · subst hk0
      have := hS.blow
      have e1 : (stI s ((0 : Nat) : Int) == 2) = false := by rw [stI_nat s (by omega), hS.zero]; rfl
      have e2 : delS s ((0 : Nat) : Int) = s := by unfold delS; rw [if_neg (by omega)]
      have e3 : delB b ((0 : Nat) : Int) = b := by unfold delB; split <;> omega
      have HE := hide (And.intro e1 (And.intro e2 (And.intro e3 hr2)))
      have H := hide (And.intro h0 (And.intro h1 hx))
      clear e1 e2 e3 hr2 h0 h1 hx h
      go_wp2_with (first
        | refine wpList_load_row rfl 28 (.tmp 2) rfl w.heap.size rfl 28 (nms .i64 s b) (0, 0) _ ((unhide H).1) Try.underlying28 rfl (by rw [nms_size]; exact size_ref) ?_
        | refine wpList_store_row rfl 28 (.tmp 4) (.tmp 14) rfl (w.heap.size + 1) (nms .i64 s b) rfl rfl 28 (nms .i64 nul 0) ((unhide H).2.1) (by rw [nms_size]; exact size_ref) (by rw [nms_size, nms_size]) (nms_one _ _ _) ?_)
      refine bodyPost_ret (v := .tuple #[.agg (nms .i64 s b), .bool false, .int .i64 0]) (results_cell_tmp2 Try.results25 _ _ (w.heap.size + 1) 28 _ _ rfl _ _ rfl rfl (((unhide H).2.1).row) Try.underlying28 rfl (by rw [nms_size]; exact size_ref)) rfl ⟨by rw [(unhide HE).1, (unhide HE).2.1, (unhide HE).2.2.1, (unhide HE).2.2.2], ext_row ((unhide H).2.2) (by omega)⟩
    · have hd : ((k : Int) == 0) = false := by simp; omega
      have ck := h0.cell (nms_get .i64 s b hk)
      have fk := h0.free k
      have hb2 := h0.set k (.int .i64 0)
      rw [nms_set _ _ _ hk] at hb2
      have h1b := h1.other (r := w.heap.size) k (.int .i64 0) (by omega)
      have hx2 : Ext w (W0.setCell ⟨w.heap.size, k, none⟩ (.int .i64 0)) := hx.setCell (p := ⟨w.heap.size, k, none⟩) (Nat.le_refl _) _
      have c65 := hb2.cell (nms_bound .i64 _ b)
      have f65 := hb2.free 65
      have e1 := stI_nat s (k := k) (by omega)
      have e2 := delS_nat s (k := k) (by omega) (by omega)
      by_cases hbk : b = (k : Int)
      · have hd2 : (b == (k : Int)) = true := by rw [hbk]; simp
        have e3 : delB b k = 0 := by unfold delB; rw [if_pos hbk]
        have hb3 := hb2.set 65 (.int .i64 0)
        rw [nms_setB] at hb3
        have h1c := h1b.other (r := w.heap.size) 65 (.int .i64 0) (by omega)
        have hx3 := hx2.setCell (p := ⟨w.heap.size, 65, none⟩) (Nat.le_refl _) (.int .i64 0)
        have HE := hide (And.intro e1 (And.intro e2 (And.intro e3 hr2)))
        have H := hide (And.intro hb3 (And.intro h1c hx3))
        clear e1 e2 e3 hr2 h0 h1 hx h hb2 h1b hx2 hb3 h1c hx3 hbk
        go_wp2_with (first
          | refine wpList_load_row rfl 28 (.tmp 2) rfl w.heap.size rfl 28 (nms .i64 (upd s k 0) 0) (0, 0) _ ((unhide H).1) Try.underlying28 rfl (by rw [nms_size]; exact size_ref) ?_
          | refine wpList_store_row rfl 28 (.tmp 4) (.tmp 28) rfl (w.heap.size + 1) (nms .i64 (upd s k 0) 0) rfl rfl 28 (nms .i64 nul 0) ((unhide H).2.1) (by rw [nms_size]; exact size_ref) (by rw [nms_size, nms_size]) (nms_one _ _ _) ?_)
        refine bodyPost_ret (v := .tuple #[.agg (nms .i64 (upd s k 0) 0), .bool (s k == 2), .int .i64 0]) (results_cell_tmp2 Try.results25 _ _ (w.heap.size + 1) 28 _ _ rfl _ _ rfl rfl (((unhide H).2.1).row) Try.underlying28 rfl (by rw [nms_size]; exact size_ref)) rfl ⟨by rw [(unhide HE).1, (unhide HE).2.1, (unhide HE).2.2.1, (unhide HE).2.2.2], ext_row ((unhide H).2.2) (by omega)⟩
      · have hd2 : (b == (k : Int)) = false := by simp [hbk]
        have e3 : delB b k = b := by unfold delB; rw [if_neg hbk]
        have HE := hide (And.intro e1 (And.intro e2 (And.intro e3 hr2)))
        have H := hide (And.intro hb2 (And.intro h1b hx2))
        clear e1 e2 e3 hr2 h0 h1 hx h hb2 h1b hx2 hbk
        go_wp2_with (first
          | refine wpList_load_row rfl 28 (.tmp 2) rfl w.heap.size rfl 28 (nms .i64 (upd s k 0) b) (0, 0) _ ((unhide H).1) Try.underlying28 rfl (by rw [nms_size]; exact size_ref) ?_
          | refine wpList_store_row rfl 28 (.tmp 4) (.tmp 28) rfl (w.heap.size + 1) (nms .i64 (upd s k 0) b) rfl rfl 28 (nms .i64 nul 0) ((unhide H).2.1) (by rw [nms_size]; exact size_ref) (by rw [nms_size, nms_size]) (nms_one _ _ _) ?_)
        refine bodyPost_ret (v := .tuple #[.agg (nms .i64 (upd s k 0) b), .bool (s k == 2), .int .i64 0]) (results_cell_tmp2 Try.results25 _ _ (w.heap.size + 1) 28 _ _ rfl _ _ rfl rfl (((unhide H).2.1).row) Try.underlying28 rfl (by rw [nms_size]; exact size_ref)) rfl ⟨by rw [(unhide HE).1, (unhide HE).2.1, (unhide HE).2.2.1, (unhide HE).2.2.2], ext_row ((unhide H).2.2) (by omega)⟩

end Go.Proofs.Ythdjdknhjhkngaa
