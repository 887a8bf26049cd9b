/-
  The document's names: the walk of Gen.
-/
import Derived.Test.YthdjdknhjhkngaaNH
namespace Go.Proofs.Ythdjdknhjhkngaa
open Go.RowKit

theorem setL_sel {s : Nat → Int} {k : Nat} : setL s (sel s 0 k) (k + 1) = s (k + 1) := by
  unfold setL
  rw [if_neg (fun h => by have := sel_mem.1 h; omega)]

theorem Own.setRow {k : IntKind} {w : World} {base B : Nat} {e : TypeId} {v : Value} {xs : List Int} {cs : Array Value} (h : Own k w base e v xs) (hB : B < base) : Own k (w.setRow B cs) base e v xs :=
  h.grown ⟨rfl, rfl, rfl, by simp, fun i _ hne => setRow_other w B i cs (by simpa using hne)⟩ hB

set_option maxRecDepth 100000 in
set_option maxHeartbeats 2000000 in
theorem refGen_any (s : Nat → Int) (b n : Int) (w : World) :
    Calls Try.prog 23 #[.agg (nms .i64 s b), .int .i64 n] w fun e w' => ∃ ao cap, e = .returned (.tuple #[.agg (nms .i64 (setL s (genL s (genN s n))) b), .slice ao (genN s n) cap, .int .i64 (genE s n)]) ∧ Own .i64 w' w.heap.size 3 (.slice ao (genN s n) cap) (ints (genL s (genN s n))) ∧ Ext w w' := by
  have hz := zero_ref
  obtain ⟨i0, hi, hz0, hz1, hz2⟩ := info_parts info_int
  have h0 : Blk ((w.alloc (.cells (nms .i64 s b) 28)).alloc (.cells (nms .i64 nul 0) 28)) w.heap.size (nms .i64 s b) 28 := (Blk.at rfl).alloc _
  have h1 : Blk ((w.alloc (.cells (nms .i64 s b) 28)).alloc (.cells (nms .i64 nul 0) 28)) (w.heap.size + 1) (nms .i64 nul 0) 28 := Blk.at (by simp)
  have hx : Ext w ((w.alloc (.cells (nms .i64 s b) 28)).alloc (.cells (nms .i64 nul 0) 28)) := ((Ext.refl w).alloc _).alloc _
  have H := hide (And.intro h0 (And.intro h1 hx))
  clear h0 h1 hx
  by_cases hn0 : n < 0
  · have e1 : genN s n = 0 := by unfold genN; split <;> omega
    have e2 : genE s n = 2 := by unfold genE; rw [if_pos hn0]
    rw [e1, e2, genL_zero, setL_nil]
    clear e1 e2
    go_enter Try.func23, Try.ntmps23
    go_wp2_with (first
      | refine wpList_load_row rfl 28 (.tmp 2) rfl w.heap.size rfl 28 (nms .i64 s b) (0, 0) _ ((unhide H).1) Try.underlying28 rfl (by rw [nms_size]; exact size_ref) ?_
      | refine wpList_store_row rfl 28 (.tmp 4) (.tmp 11) rfl (w.heap.size + 1) (nms .i64 s b) rfl rfl 28 (nms .i64 nul 0) ((unhide H).2.1) (by rw [nms_size]; exact size_ref) (by rw [nms_size, nms_size]) (nms_one _ _ _) ?_)
    refine bodyPost_ret (v := .tuple #[.agg (nms .i64 s b), .slice none 0 0, .int .i64 2]) (results_cell_tmp2 Try.results23 _ _ (w.heap.size + 1) 28 _ _ rfl _ _ rfl rfl (((unhide H).2.1).row) Try.underlying28 rfl (by rw [nms_size]; exact size_ref)) rfl ⟨none, 0, rfl, Own.nil _ _ _ _, ext_row ((unhide H).2.2) (by omega)⟩
  · by_cases hn1 : n ≤ ((sel s 0 64).length : Int)
    · obtain ⟨m, rfl⟩ := Int.eq_ofNat_of_zero_le (show 0 ≤ n by omega)
      have e1 : genN s (m : Int) = m := by unfold genN; rw [if_pos hn1]; simp
      have e2 : genE s (m : Int) = 0 := by unfold genE; rw [if_neg hn0, if_pos hn1]
      rw [e1, e2]
      have hm : m ≤ (sel s 0 64).length := by omega
      have hm64 : m ≤ 64 := Nat.le_trans hm (sel_bound s 0 64)
      have hdm : decide ((sel s 0 64).length < m) = false := by simp; omega
      clear e1 e2
      go_enter Try.func23, Try.ntmps23
      go_wp2_with (first
        | refine wpList_load_row rfl 28 (.tmp 2) rfl w.heap.size rfl 28 (nms .i64 s b) (0, 0) _ ((unhide H).1) Try.underlying28 rfl (by rw [nms_size]; exact size_ref) ?_
        | (go_at_call 26; refine (refLeft_any s b _).mono ?_; rintro e w1 ⟨rfl, rfl⟩))
      clear hn0 hn1
      go_loopw [7, 8] (fun v i wr => ∃ k : Nat, k ≤ 64 ∧ i = .int .i64 ((k : Int) + 1) ∧ (sel s 0 k).length ≤ m ∧ Own .i64 wr (w.heap.size + 2) 3 v (ints (sel s 0 k)) ∧ Blk wr w.heap.size (nms .i64 (setL s (sel s 0 k)) b) 28 ∧ Blk wr (w.heap.size + 1) (nms .i64 nul 0) 28 ∧ Ext w wr)
        (fun _ i _ => 65 - (intOf i).toNat)
      case atStart => exact ⟨0, by omega, rfl, Nat.zero_le _, Own.nil _ _ _ _, by rw [sel_zero, setL_nil]; exact (unhide H).1.alloc _, (unhide H).2.1.alloc _, (unhide H).2.2.alloc _⟩
      case round =>
        clear H
        obtain ⟨k, hk, rfl, hle, hown, hb, h1, hx⟩ := hrel
        have hsz := hx.size
        have hsz1 := h1.lt
        obtain ⟨ao, cap, rfl⟩ := hown.shape
        rw [ints_length] at hown ⊢
        have HL := hide hle
        have H := hide (And.intro hown (And.intro hb (And.intro h1 hx)))
        have fin : (sel s 0 k).length = m → genL s m = sel s 0 k := fun e => genL_of hk e
        have FIN := hide fin
        clear fin hown hx hle h1
        have out : ∀ hmm : (sel s 0 k).length = m, (((m : Int) : Int) = ((sel s 0 k).length : Int)) := fun h => by rw [h]
        clear out
        by_cases hgo : k < 64 ∧ (sel s 0 k).length < m
        · obtain ⟨hlt, hlm⟩ := hgo
          have hk2 : (k : Int) + 1 ≤ 64 := by omega
          have hk3 : (k : Int) + 1 < 65 := by omega
          have hdd : decide ((k : Int) + 1 ≤ 64) = true := by simp; omega
          have hdl : decide (((sel s 0 k).length : Int) < (m : Int)) = true := by simp; omega
          have ck := hb.cell (nms_get .i64 _ b (i := k + 1) (by omega))
          rw [setL_sel] at ck
          have fk := hb.free (k + 1)
          have hb2 := hb.set (k + 1) (.int .i64 1)
          rw [nms_set _ _ _ (by omega), setL_snoc] at hb2
          by_cases heq : s (k + 1) = 0
          · have hd2 : (s (k + 1) == 0) = true := by simp [heq]
            rw [← sel_yes heq] at hb2
            have h1c := (unhide H).2.2.1.other (r := w.heap.size) (k + 1) (.int .i64 1) (by omega)
            have hx3 := (unhide H).2.2.2.setCell (p := ⟨w.heap.size, k + 1, none⟩) (Nat.le_refl _) (.int .i64 1)
            have hown3 := (unhide H).1.grown (grownBy_set wr w.heap.size (k + 1) (.int .i64 1)) (by omega)
            have HO3 := hide (hown3.alloc (.cells #[.int .i64 ((k : Int) + 1)] 3))
            have hr1 : Row .i64 ((wr.setCell ⟨w.heap.size, k + 1, none⟩ (.int .i64 1)).alloc (.cells #[.int .i64 ((k : Int) + 1)] 3)) (.slice (some ⟨wr.heap.size, 0, none⟩) 1 1) [(k : Int) + 1] := by
              have h := Row.one .i64 (wr.setCell ⟨w.heap.size, k + 1, none⟩ (.int .i64 1)) ((k : Int) + 1) 3
              rwa [World.size_setCell] at h
            have HR1 := hide hr1
            have HQ := hide heq
            have H2 := hide (And.intro hb2 (And.intro h1c hx3))
            clear hr1
            clear heq hb2 h1c hx3 hown3 hb
            go_wp2_with (at_builtin; refine wpList_append_Own rfl (.tmp 35) (.tmp 37) 40 rfl (w.heap.size + 2) 3 i0 .i64 8 Try.underlying40 hi hz0 hz1 hz2 _ _ rfl (unhide HO3) _ [(k : Int) + 1] rfl (unhide HR1) ?d1 ?d2 ?d3 ?_)
            case d1 => unfold maxLen; simp [ints_length]; have := sel_bound s 0 k; omega
            case d2 => simp [ints_length]; have := sel_bound s 0 k; omega
            case d3 => simp; omega
            intro v3 w3 hown4 hgrow3
            have hne : ∀ j, j < w.heap.size + 2 → some j ≠ (Value.slice ao (sel s 0 k).length cap).ownBlock := fun j hj e => by
              have := (unhide HO3).lt _ e.symm
              omega
            have hA3 : Blk w3 w.heap.size (nms .i64 (setL s (sel s 0 (k + 1))) b) 28 := (hgrow3.block _ (by simp; omega) (hne _ (by omega))).trans ((unhide H2).1.alloc _)
            have hB3 : Blk w3 (w.heap.size + 1) (nms .i64 nul 0) 28 := (hgrow3.block _ (by simp; omega) (hne _ (by omega))).trans ((unhide H2).2.1.alloc _)
            have hx4 : Ext w w3 := (Ext.alloc (unhide H2).2.2 _).grown hgrow3 (by simp; omega) (fun g e => by have := (unhide HO3).lt _ e; omega)
            have H3 := hide (And.intro hown4 (And.intro hA3 (And.intro hB3 hx4)))
            clear hown4 hgrow3 hA3 hB3 hx4 HO3 H2 hne
            go_wp2
            go_roundw
            case rel =>
              obtain ⟨h1, h2, h3, h4⟩ := unhide H3
              refine ⟨k + 1, by omega, by go_num, ?_, ?_, h2, h3, h4⟩
              · rw [sel_yes (unhide HQ)]; simp; omega
              · rw [sel_yes (unhide HQ), ints_snoc]; exact h1
            case measure => simp [intOf]; omega
          · have hd2 : (s (k + 1) == 0) = false := by simp [heq]
            have HQ := hide heq
            clear heq hb2 hb
            go_wp2
            go_roundw
            case rel =>
              obtain ⟨h1, h2, h3, h4⟩ := unhide H
              refine ⟨k + 1, by omega, by go_num, ?_, ?_, ?_, h3, h4⟩
              · rw [sel_no (unhide HQ)]; exact unhide HL
              · rw [sel_no (unhide HQ)]; exact h1
              · rw [sel_no (unhide HQ)]; exact h2
            case measure => simp [intOf]; omega
        · have hmm : (sel s 0 k).length = m := by
            have := unhide HL
            by_cases h64 : k < 64
            · omega
            · obtain rfl : k = 64 := by omega
              omega
          have EG := hide (unhide FIN hmm)
          have HG := hide hgo
          clear hgo hb FIN HL
          have H4 := hide (And.intro (unhide H).2.1 (unhide H).2.2.1)
          by_cases h64 : k < 64
          · have hdd : decide ((k : Int) + 1 ≤ 64) = true := by simp; omega
            have hdl : decide (((sel s 0 k).length : Int) < (m : Int)) = false := by simp; omega
            have hlm : ¬ ((sel s 0 k).length : Int) < (m : Int) := by omega
            have hk2 : (k : Int) + 1 ≤ 64 := by omega
            have HM := hide hmm
            clear hmm
            go_wp2_with (first
              | refine wpList_load_row rfl 28 (.tmp 2) rfl w.heap.size rfl 28 (nms .i64 (setL s (sel s 0 k)) b) (0, 0) _ ((unhide H4).1) Try.underlying28 rfl (by rw [nms_size]; exact size_ref) ?_
              | refine wpList_store_row rfl 28 (.tmp 4) (.tmp 39) rfl (w.heap.size + 1) (nms .i64 (setL s (sel s 0 k)) b) rfl rfl 28 (nms .i64 nul 0) ((unhide H4).2) (by rw [nms_size]; exact size_ref) (by rw [nms_size, nms_size]) (nms_one _ _ _) ?_)
            refine bodyPost_ret (v := .tuple #[.agg (nms .i64 (setL s (sel s 0 k)) b), .slice ao (sel s 0 k).length cap, .int .i64 0]) (results_cell_tmp2 Try.results23 _ _ (w.heap.size + 1) 28 _ _ rfl _ _ rfl rfl (((unhide H4).2).row) Try.underlying28 rfl (by rw [nms_size]; exact size_ref)) rfl ?_
            have hm := unhide HM
            have hE := unhide EG
            have hO := ((unhide H).1.setRow (B := w.heap.size + 1) (cs := nms .i64 (setL s (sel s 0 k)) b) (by omega)).up (base' := w.heap.size) (by omega)
            rw [hm] at hO ⊢
            rw [hE]
            exact ⟨ao, cap, rfl, hO, ext_row ((unhide H).2.2.2) (by omega)⟩
          · obtain rfl : k = 64 := by omega
            have HM := hide hmm
            clear hmm
            go_wp2_with (first
              | refine wpList_load_row rfl 28 (.tmp 2) rfl w.heap.size rfl 28 (nms .i64 (setL s (sel s 0 64)) b) (0, 0) _ ((unhide H4).1) Try.underlying28 rfl (by rw [nms_size]; exact size_ref) ?_
              | refine wpList_store_row rfl 28 (.tmp 4) (.tmp 39) rfl (w.heap.size + 1) (nms .i64 (setL s (sel s 0 64)) b) rfl rfl 28 (nms .i64 nul 0) ((unhide H4).2) (by rw [nms_size]; exact size_ref) (by rw [nms_size, nms_size]) (nms_one _ _ _) ?_)
            refine bodyPost_ret (v := .tuple #[.agg (nms .i64 (setL s (sel s 0 64)) b), .slice ao (sel s 0 64).length cap, .int .i64 0]) (results_cell_tmp2 Try.results23 _ _ (w.heap.size + 1) 28 _ _ rfl _ _ rfl rfl (((unhide H4).2).row) Try.underlying28 rfl (by rw [nms_size]; exact size_ref)) rfl ?_
            have hm := unhide HM
            have hE := unhide EG
            have hO := ((unhide H).1.setRow (B := w.heap.size + 1) (cs := nms .i64 (setL s (sel s 0 64)) b) (by omega)).up (base' := w.heap.size) (by omega)
            rw [hm] at hO ⊢
            rw [hE]
            exact ⟨ao, cap, rfl, hO, ext_row ((unhide H).2.2.2) (by omega)⟩
    · have e1 : genN s n = 0 := by unfold genN; rw [if_neg hn1]
      have e2 : genE s n = 6 := by unfold genE; rw [if_neg hn0, if_neg hn1]
      rw [e1, e2, genL_zero, setL_nil]
      clear e1 e2
      go_enter Try.func23, Try.ntmps23
      go_wp2_with (first
        | refine wpList_load_row rfl 28 (.tmp 2) rfl w.heap.size rfl 28 (nms .i64 s b) (0, 0) _ ((unhide H).1) Try.underlying28 rfl (by rw [nms_size]; exact size_ref) ?_
        | (go_at_call 26; refine (refLeft_any s b _).mono ?_; rintro e w1 ⟨rfl, rfl⟩)
        | refine wpList_load_row rfl 28 (.tmp 2) rfl w.heap.size rfl 28 (nms .i64 s b) (0, 0) _ ((unhide H).1.alloc _) Try.underlying28 rfl (by rw [nms_size]; exact size_ref) ?_
        | refine wpList_store_row rfl 28 (.tmp 4) (.tmp 16) rfl (w.heap.size + 1) (nms .i64 s b) rfl rfl 28 (nms .i64 nul 0) ((unhide H).2.1.alloc _) (by rw [nms_size]; exact size_ref) (by rw [nms_size, nms_size]) (nms_one _ _ _) ?_)
      refine bodyPost_ret (v := .tuple #[.agg (nms .i64 s b), .slice none 0 0, .int .i64 6]) (results_cell_tmp2 Try.results23 _ _ (w.heap.size + 1) 28 _ _ rfl _ _ rfl rfl (((unhide H).2.1.alloc _).row) Try.underlying28 rfl (by rw [nms_size]; exact size_ref)) rfl ⟨none, 0, rfl, Own.nil _ _ _ _, ext_row ((unhide H).2.2.alloc _) (by omega)⟩
end Go.Proofs.Ythdjdknhjhkngaa
