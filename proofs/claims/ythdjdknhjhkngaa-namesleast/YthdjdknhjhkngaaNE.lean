/-
  Names: the walks of Left, All and Copy.
-/
import Derived.Test.YthdjdknhjhkngaaND
namespace Go.Proofs.Ythdjdknhjhkngaa
open Go.RowKit Go.Shelf
attribute [local go_sem] Oper.semAt_some

theorem left_nil (w : World) :
    Calls Try.prog 21 #[.pointer none] w fun e w' => e = .returned (.int .i64 0) ∧ w' = w := by
  go_enter Try.func21, Try.ntmps21
  go_wp2
  go_ret
  exact ⟨rfl, rfl⟩

theorem blk_kept {W W' : World} {b : Nat} {cs : Array Value} {t : TypeId} {row : Option Nat} (h : Blk W b cs t) (hg : W.grownBy W' row) (hr : ∀ r, row = some r → ∃ o : Obj, W.heap[r]? = some o ∧ o.isCells = false) : Blk W' b cs t := by
  refine (hg.block b h.lt ?_).trans h
  intro e
  obtain ⟨o, ho, hc⟩ := hr b e.symm
  rw [show W.heap[b]? = some (.cells cs t (0, 0)) from h] at ho
  cases ho
  cases hc
theorem kept_put {Ba Bs : Nat} {W : World} {l : Nat} {o' : Obj} (ha : Ba ≠ l) (hs : Bs ≠ l) : Kept Ba Bs W (W.putObj l o') := ⟨World.putObj_heap_other ha, World.putObj_heap_other hs⟩
theorem Kept.trans {Ba Bs : Nat} {A B C : World} (h : Kept Ba Bs A B) (k : Kept Ba Bs B C) : Kept Ba Bs A C := ⟨k.1.trans h.1, k.2.trans h.2⟩

set_option maxRecDepth 100000 in
set_option maxHeartbeats 2000000 in
theorem left_any (B : Nat) (s : Nat → Int) (b : Int) (w : World) (hb : Blk w B (nms .u8 s b) 55) :
    Calls Try.prog 21 #[.pointer (some ⟨B, 0, none⟩)] w fun e w' => e = .returned (.int .i64 ((sel s 0 64).length : Int)) ∧ Ext w w' := by
  refine (callsIn_wide (n := 9)).1 ?_
  refine callsIn_of_wp_marks Try.func21 rfl trivial ?_ rfl
  simp only [Try.ntmps21, List.size_toArray, List.length_cons, List.length_nil, Nat.reduceAdd, Nat.reduceSub, Array.replicate_succ, Array.replicate_zero, List.push_toArray, List.append_toArray, List.nil_append, List.cons_append]
  refine wpIn_wide.2 ?_
  have HB := hide hb
  clear hb
  go_wp2_with (first
    | refine wpList_load_mid rfl 53 (.tmp 8) rfl B 0 rfl (nstL .u8 s) _ (nms_range ((unhide HB).alloc _)) Try.underlying53 rfl (by rw [nstL_length]; exact size_states) ?_
    | (go_at_call 27; refine (where_any s 0 _).mono ?_; rintro e w1 ⟨rfl, rfl⟩))
  refine (wpIn_wide (n := 9)).1 ?_
  have h0 : Blk (((w.alloc (.cells #[.int .i64 0] 3)).alloc (.cells (nst .u8 s) 53)).alloc (.cells #[.int .u8 0] 51)) w.heap.size #[.int .i64 0] 3 := ((Blk.at rfl).alloc _).alloc _
  have hA : Blk (((w.alloc (.cells #[.int .i64 0] 3)).alloc (.cells (nst .u8 s) 53)).alloc (.cells #[.int .u8 0] 51)) (w.heap.size + 1) (nst .u8 s) 53 := (Blk.at (by simp)).alloc _
  have hS : Blk (((w.alloc (.cells #[.int .i64 0] 3)).alloc (.cells (nst .u8 s) 53)).alloc (.cells #[.int .u8 0] 51)) (w.heap.size + 1 + 1) #[.int .u8 0] 51 := Blk.at (by simp)
  have hX : Ext w (((w.alloc (.cells #[.int .i64 0] 3)).alloc (.cells (nst .u8 s) 53)).alloc (.cells #[.int .u8 0] 51)) := (((Ext.refl w).alloc _).alloc _).alloc _
  obtain ⟨W0, hW0⟩ : ∃ W0, (((w.alloc (.cells #[.int .i64 0] 3)).alloc (.cells (nst .u8 s) 53)).alloc (.cells #[.int .u8 0] 51)) = W0 := ⟨_, rfl⟩
  rw [hW0] at h0 hA hS hX ⊢
  clear hW0
  have hn1 := h0.lt
  have hn2 := hA.lt
  have hn3 := hS.lt
  refine wpIn_rangeFunc_ownF (α := Nam s 0) rfl (by omega) (gf := 32) (lb := #[.pointer (some ⟨w.heap.size + 1, 0, none⟩), .pointer (some ⟨w.heap.size + 1 + 1, 0, none⟩)]) rfl trivial (enters_of Try.func32 (by kernel_rfl) rfl)
    (iter_stops (9 - 1) (by omega) s 0 (w.heap.size + 1) (w.heap.size + 1 + 1) W0 hA hS) Kept.trans (fun W l o o' hl _ _ _ => kept_put (by omega) (by omega)) (Below.refl _ _) (fun _ => rfl)
    (fun pre W => Blk W w.heap.size #[.int .i64 (pre.length : Int)] 3 ∧ Below w.heap.size w W)
    (fun _ _ _ => False)
    (fun pre A B' row hs hg hr => ⟨blk_kept hs.1 hg (fun r e => (hr r e).2), hs.2.grown hg hs.2.size (fun r e => by have := (hr r e).1; omega)⟩)
    (fun _ _ _ _ _ hs _ _ => hs)
    ⟨h0, hX⟩
    (fun x => { tmps := #[.pointer (some ⟨B, 0, none⟩), undef, .int .i64 0, .pointer (some ⟨w.heap.size, 0, none⟩), .pointer (some ⟨B, 0, none⟩), .bool false, .pointer (some ⟨B, 0, none⟩), .pointer (some ⟨B, 0, none⟩), .pointer (some ⟨B, 0, none⟩), .agg (nstL .u8 s).toArray,
      .func (.func 32) #[] #[.pointer (some ⟨w.heap.size + 1, 0, none⟩), .pointer (some ⟨w.heap.size + 1 + 1, 0, none⟩)], .int .i64 (x.1 : Int), undef, undef, undef], defers := [] }) ?assign ?body ?done ?stop
  case assign =>
    intro l x W K hK
    gi_wp2
    simpa using hK
  case body =>
    rintro l pre x W ⟨hc, hB⟩ hlt
    have hlen : (pre.length : Int) ≤ 64 := by have := sel_bound s 0 64; omega
    have c0 := hc.cell (i := 0) rfl
    have f0 := hc.free 0
    have HC := hide (And.intro hc hB)
    clear hc hB
    gi_wp2
    refine ⟨KeepsOthers.setCell _ _ _, ⟨heap_setCell_other _ _ _ _ (by simp), heap_setCell_other _ _ _ _ (by simp; omega)⟩, ?_, (unhide HC).2.setCell (p := ⟨w.heap.size, 0, none⟩) (Nat.le_refl _) _⟩
    rw [List.length_append]
    exact (unhide HC).1.set 0 (.int .i64 ((pre.length : Int) + 1))
  case done =>
    rintro D ys W hD hys ⟨hc, hB⟩ hK
    have c0 := hc.cell (i := 0) rfl
    have HB2 := hide hB
    have HK := hide hK
    have HY := hide hys
    clear hB hK hc hys
    go_wp2
    refine ⟨by simp, .inl ⟨_, _, rfl, run_takeDeferred (unhide HK), ?_⟩⟩
    have e : ys.length = (sel s 0 64).length := by rw [← unhide HY]; simp [vals]
    refine ⟨_, results_tmp rfl _ _ _, ?_, (unhide HB2).trans (belowK_b (w := w) (Nat.le_refl _) W D _ _ (by omega) (unhide HK) rfl rfl)⟩
    rw [← e]
    rfl
  case stop =>
    rintro D c pre W _ _ h _
    exact h.elim

/-- A function value over which one ranges, and what it holds: the names that stand as c. -/
def Seq (w : World) (v : Value) (s : Nat → Int) (c : Int) : Prop :=
  ∃ Ba Bs, v = .func (.func 32) #[] #[.pointer (some ⟨Ba, 0, none⟩), .pointer (some ⟨Bs, 0, none⟩)] ∧ Blk w Ba (nst .u8 s) 53 ∧ Blk w Bs #[.int .u8 c] 51

set_option maxHeartbeats 1000000 in
theorem all_any (B : Nat) (s : Nat → Int) (b : Int) (w : World) (hb : Blk w B (nms .u8 s b) 55) :
    Calls Try.prog 13 #[.pointer (some ⟨B, 0, none⟩)] w fun e w' => e = .returned (.func (.func 32) #[] #[.pointer (some ⟨w.heap.size, 0, none⟩), .pointer (some ⟨w.heap.size + 1, 0, none⟩)]) ∧ w' = (w.alloc (.cells (nst .u8 s) 53)).alloc (.cells #[.int .u8 2] 51) := by
  have HB := hide hb
  clear hb
  go_enter Try.func13, Try.ntmps13
  go_wp2_with (first
    | refine wpList_load_mid rfl 53 (.tmp 9) rfl B 0 rfl (nstL .u8 s) _ (nms_range (unhide HB)) Try.underlying53 rfl (by rw [nstL_length]; exact size_states) ?_
    | (go_at_call 27; refine (where_any s 2 _).mono ?_; rintro e w1 ⟨rfl, rfl⟩))
  go_ret
  exact ⟨rfl, rfl⟩

set_option maxHeartbeats 1000000 in
theorem all_nil (w : World) :
    Calls Try.prog 13 #[.pointer none] w fun e w' => e = .returned (.func (.func 32) #[] #[.pointer (some ⟨w.heap.size, 0, none⟩), .pointer (some ⟨w.heap.size + 1, 0, none⟩)]) ∧ w' = (w.alloc (.cells (nst .u8 nul) 53)).alloc (.cells #[.int .u8 2] 51) := by
  go_enter Try.func13, Try.ntmps13
  go_wp2_with (first
    | refine wpList_buildTo rfl 53 _ rfl (some 5) rfl (nst .u8 nul) (by kernel_rfl) ?_
    | (go_at_call 27; refine (where_any nul 2 _).mono ?_; rintro e w1 ⟨rfl, rfl⟩))
  go_ret
  exact ⟨rfl, rfl⟩

set_option maxHeartbeats 1000000 in
theorem copy_any (B : Nat) (s : Nat → Int) (b : Int) (w : World) (hb : Blk w B (nms .u8 s b) 55) :
    Calls Try.prog 14 #[.pointer (some ⟨B, 0, none⟩)] w fun e w' => e = .returned (.pointer (some ⟨w.heap.size, 0, none⟩)) ∧ w' = w.alloc (.cells (nms .u8 s b) 55) := by
  have hz := zero_names
  have HB := hide hb
  clear hb
  go_enter Try.func14, Try.ntmps14
  go_wp2_with (first
    | refine wpList_load_row rfl 55 (.tmp 7) rfl B rfl 55 (nms .u8 s b) (0, 0) _ (unhide HB) Try.underlying55 rfl (by rw [nms_size]; exact size_names) ?_
    | refine wpList_store_last rfl 55 (.tmp 3) (.tmp 8) rfl _ rfl (nms .u8 s b) rfl 66 size_names (nms_size _ _ _) rfl (nms_one _ _ _) ?_)
  go_ret
  exact ⟨rfl, rfl⟩
theorem copy_nil (w : World) :
    Calls Try.prog 14 #[.pointer none] w fun e w' => e = .returned (.pointer none) ∧ w' = w := by
  go_enter Try.func14, Try.ntmps14
  go_wp2
  go_ret
  exact ⟨rfl, rfl⟩
end Go.Proofs.Ythdjdknhjhkngaa
