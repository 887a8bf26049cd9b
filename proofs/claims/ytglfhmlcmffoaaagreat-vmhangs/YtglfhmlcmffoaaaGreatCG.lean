/-
  Codes: the walks of justDo and of just. What the dump lacks is left out.
-/
import Derived.Test.YtglfhmlcmffoaaaGreatCJeJ
namespace Go.Proofs.YtglfhmlcmffoaaaGreat
open Go.RowKit
set_option linter.unusedVariables false
set_option linter.unusedSimpArgs false

theorem Own.past {k : IntKind} {w w' : World} {base r : Nat} {e : TypeId} {v : Value} {xs : List Int} (h : Own k w base e v xs) (hg : w.grownBy w' (some r)) (hr : r < base) : Own k w' base e v xs := by
  refine World.ownsRow.kept h hg ?_
  cases hv : v.ownBlock with
  | none => exact .inl rfl
  | some b => exact .inr (fun e => by
      have := h.lt b hv
      cases e
      omega)
/-- An OpDo with its first k arguments. -/
def doK (I : Nat → Int) (k : Nat) : Array Value := #[.int .i64 (I 0), .int .i64 (I 1), .int .i64 (I 2), .int .i64 (I 3), .int .i64 (I 4), .int .i64 (if 0 < k then I 5 else 0), .int .i64 (if 1 < k then I 6 else 0), .int .i64 (if 2 < k then I 7 else 0), .int .i32 0, .int .i32 0, .int .i32 0, .int .i32 0, .int .i64 0, .int .i64 0, .int .i64 0, .int .i64 0]
theorem doK_just (I : Nat → Int) (h5 : I 0 = 5) : insA (justP I) = doK I (argsP (I 1) (I 2)) := by
  simp [insA, justP, keeps, wrB, doK, h5, Nat.lt_iff_add_one_le]
theorem info16 : (Tryz.prog.info? 59).map (fun i => (i.zero, i.size, i.bytes)) = some (some (.agg #[.int .i64 (0), .int .i64 (0), .int .i64 (0), .int .i64 (0), .int .i64 (0), .int .i64 (0), .int .i64 (0), .int .i64 (0), .int .i32 (0), .int .i32 (0), .int .i32 (0), .int .i32 (0), .int .i64 (0), .int .i64 (0), .int .i64 (0), .int .i64 (0)]), 16, 112) := by kernel_rfl

set_option maxRecDepth 10000 in
set_option maxHeartbeats 4000000 in
theorem justDo_any (I : Nat → Int) (w : World) (h5 : I 0 = 5) : Calls Tryz.prog 131 #[.agg (insA I)] w fun e w' => e = .returned (.agg (insA (justP I))) ∧ Ext w w' := by
  rw [doK_just I h5]
  have HR := hide (fun wx => reads_any I wx)
  have ER : Hid (readsP I = [I 5, I 6, I 7].take (argsP (I 1) (I 2))) := by simp [Hid, readsP, h5]
  rw [unhide ER] at HR
  have hn := argsP_le (I 1) (I 2)
  generalize argsP (I 1) (I 2) = n at *
  have HL : Hid (([I 5, I 6, I 7].take n).length = n) := by rw [Hid, List.length_take]; simp; omega
  have HB := hide (Blk.new w (insA I) 59)
  obtain ⟨i0, i1, i2, i3, i4, i5, i6, i7⟩ := cellJ (((unhide HB).alloc (.cells #[.int .i64 (0), .int .i64 (0), .int .i64 (0), .int .i64 (0), .int .i64 (0), .int .i64 (0), .int .i64 (0), .int .i64 (0), .int .i32 (0), .int .i32 (0), .int .i32 (0), .int .i32 (0), .int .i64 (0), .int .i64 (0), .int .i64 (0), .int .i64 (0)] 59)))
  have HX := hide ((((Ext.refl w).alloc (.cells (insA I) 59)).alloc (.cells #[.int .i64 (0), .int .i64 (0), .int .i64 (0), .int .i64 (0), .int .i64 (0), .int .i64 (0), .int .i64 (0), .int .i64 (0), .int .i32 (0), .int .i32 (0), .int .i32 (0), .int .i32 (0), .int .i64 (0), .int .i64 (0), .int .i64 (0), .int .i64 (0)] 59)).alloc (.cells (doK I 0) 59))
  clear i5 i6 i7 ER h5
  go_enter Tryz.func131, Tryz.ntmps131
  go_wp2_with (first
    | refine wpList_buildTo rfl 59 _ rfl (some 17) rfl (doK I 0) (by kernel_rfl) ?_
    | refine wpList_storeLast rfl 59 (.tmp 3) (.tmp 17) rfl _ (w.heap.size + 1 + 1) (by simp) rfl (doK I 0) rfl 16 sizeI16 rfl rfl (by simp [doK, Value.oneCell']) ?_
    | refine wpList_load_row rfl 59 (.tmp 1) rfl w.heap.size rfl 59 (insA I) (0, 0) _ ((((unhide HB).alloc _).alloc _).alloc _) Tryz.underlying59 rfl sizeI16 ?_
    | (go_at_call 9999))
  refine (unhide HR _).mono ?_
  rintro e w3 ⟨ao, cap, rfl, hown, hx3⟩
  have D := hide (show Blk w3 w.heap.size (insA I) 59 ∧ Blk w3 (w.heap.size + 1) #[.int .i64 (0), .int .i64 (0), .int .i64 (0), .int .i64 (0), .int .i64 (0), .int .i64 (0), .int .i64 (0), .int .i64 (0), .int .i32 (0), .int .i32 (0), .int .i32 (0), .int .i32 (0), .int .i64 (0), .int .i64 (0), .int .i64 (0), .int .i64 (0)] 59 ∧ Blk w3 (w.heap.size + 1 + 1) (doK I 0) 59 ∧ Blk w3 (w.heap.size + 1 + 1 + 1) #[.pointer (some ⟨w.heap.size + 1 + 1, 5, none⟩), .pointer (some ⟨w.heap.size + 1 + 1, 6, none⟩), .pointer (some ⟨w.heap.size + 1 + 1, 7, none⟩)] 167 ∧ Ext w w3 from
    ⟨((((unhide HB).alloc _).alloc _).alloc _).ext hx3, (((Blk.here (by simp)).alloc _).alloc _).ext hx3, ((Blk.here (by simp)).alloc _).ext hx3, (Blk.here (by simp)).ext hx3, ((unhide HX).alloc _).trans hx3⟩)
  have HO := hide (hown.low (b2 := w.heap.size + 1 + 1 + 1 + 1) (by simp))
  rw [unhide HL] at HO ⊢
  clear hown hx3 HX HB i0 i1 i2 i3 i4 HR
  go_wp2
  go_loopw [25] (fun iv wr => ∃ k : Nat, k ≤ n ∧ iv = .int .i64 (k : Int) ∧ Blk wr w.heap.size (insA I) 59 ∧ Blk wr (w.heap.size + 1) #[.int .i64 (0), .int .i64 (0), .int .i64 (0), .int .i64 (0), .int .i64 (0), .int .i64 (0), .int .i64 (0), .int .i64 (0), .int .i32 (0), .int .i32 (0), .int .i32 (0), .int .i32 (0), .int .i64 (0), .int .i64 (0), .int .i64 (0), .int .i64 (0)] 59 ∧ Blk wr (w.heap.size + 1 + 1) (doK I k) 59 ∧ Blk wr (w.heap.size + 1 + 1 + 1) #[.pointer (some ⟨w.heap.size + 1 + 1, 5, none⟩), .pointer (some ⟨w.heap.size + 1 + 1, 6, none⟩), .pointer (some ⟨w.heap.size + 1 + 1, 7, none⟩)] 167 ∧ Ext w wr ∧ Own .i64 wr (w.heap.size + 1 + 1 + 1 + 1) 3 (.slice ao n cap) ([I 5, I 6, I 7].take n)) (fun iv _ => n - (intOf iv).toNat)
  case atStart => exact ⟨0, by omega, rfl, (unhide D).1, (unhide D).2.1, (unhide D).2.2.1, (unhide D).2.2.2.1, (unhide D).2.2.2.2, unhide HO⟩
  case round =>
    clear D HO
    obtain ⟨k, hk, rfl, hb0, hb1, hb2, hb3, hx, ho⟩ := hrel
    have D := hide (And.intro hb0 (And.intro hb1 (And.intro hb2 (And.intro hb3 (And.intro hx ho)))))
    clear hb0 hb1 hb2 hb3 hx ho
    by_cases hlt : k < n
    · obtain ⟨b, off, ea, hc⟩ := (unhide D).2.2.2.2.2.row.at k (by rw [unhide HL]; exact hlt)
      have ck := hc k (by rw [unhide HL]; exact hlt)
      rw [show ([I 5, I 6, I 7].take n)[k]'(by rw [unhide HL]; exact hlt) = [I 5, I 6, I 7][k]'(by simp; omega) by simp] at ck
      subst ea
      clear hc
      have HN : Hid (∀ (j : Nat) u, Ext w (wr.setCell ⟨w.heap.size + 1 + 1, j, none⟩ u) ∧ Blk (wr.setCell ⟨w.heap.size + 1 + 1, j, none⟩ u) w.heap.size (insA I) 59 ∧ Blk (wr.setCell ⟨w.heap.size + 1 + 1, j, none⟩ u) (w.heap.size + 1) #[.int .i64 (0), .int .i64 (0), .int .i64 (0), .int .i64 (0), .int .i64 (0), .int .i64 (0), .int .i64 (0), .int .i64 (0), .int .i32 (0), .int .i32 (0), .int .i32 (0), .int .i32 (0), .int .i64 (0), .int .i64 (0), .int .i64 (0), .int .i64 (0)] 59 ∧ Blk (wr.setCell ⟨w.heap.size + 1 + 1, j, none⟩ u) (w.heap.size + 1 + 1) ((doK I k).setIfInBounds j u) 59 ∧ Blk (wr.setCell ⟨w.heap.size + 1 + 1, j, none⟩ u) (w.heap.size + 1 + 1 + 1) #[.pointer (some ⟨w.heap.size + 1 + 1, 5, none⟩), .pointer (some ⟨w.heap.size + 1 + 1, 6, none⟩), .pointer (some ⟨w.heap.size + 1 + 1, 7, none⟩)] 167 ∧ Own .i64 (wr.setCell ⟨w.heap.size + 1 + 1, j, none⟩ u) (w.heap.size + 1 + 1 + 1 + 1) 3 (.slice (some ⟨b, off, none⟩) n cap) ([I 5, I 6, I 7].take n)) := fun j u => ⟨extSet (unhide D).2.2.2.2.1 (by omega), (unhide D).1.other _ _ (by omega), (unhide D).2.1.other _ _ (by omega), (unhide D).2.2.1.set _ _, (unhide D).2.2.2.1.other _ _ (by omega), (unhide D).2.2.2.2.2.past (grownBy_set _ _ _ _) (by omega)⟩
      rcases (by omega : k = 0 ∨ k = 1 ∨ k = 2) with rfl | rfl | rfl
      · have hp := (unhide D).2.2.2.1.cell (i := 0) rfl
        have hcl : wr.cell? ⟨w.heap.size + 1 + 1, 5, none⟩ = some (.int .i64 0) := (unhide D).2.2.1.cell (by simp [doK])
        have hfr := (unhide D).2.2.1.free 5
        have HE : Hid ((doK I 0).setIfInBounds 5 (.int .i64 (I 5)) = doK I (0 + 1)) := by simp [Hid, doK]
        simp only [List.getElem_cons_zero, List.getElem_cons_succ, Nat.add_zero] at ck
        go_wp2
        go_roundw
        case rel =>
          refine ⟨0 + 1, by omega, rfl, (unhide HN _ _).2.1, (unhide HN _ _).2.2.1, ?_, (unhide HN _ _).2.2.2.2.1, (unhide HN _ _).1, (unhide HN _ _).2.2.2.2.2⟩
          rw [← unhide HE]
          exact (unhide HN _ _).2.2.2.1
        case measure => simp [intOf]; omega
      · have hp := (unhide D).2.2.2.1.cell (i := 1) rfl
        have hcl : wr.cell? ⟨w.heap.size + 1 + 1, 6, none⟩ = some (.int .i64 0) := (unhide D).2.2.1.cell (by simp [doK])
        have hfr := (unhide D).2.2.1.free 6
        have HE : Hid ((doK I 1).setIfInBounds 6 (.int .i64 (I 6)) = doK I (1 + 1)) := by simp [Hid, doK]
        simp only [List.getElem_cons_zero, List.getElem_cons_succ, Nat.add_zero] at ck
        go_wp2
        go_roundw
        case rel =>
          refine ⟨1 + 1, by omega, rfl, (unhide HN _ _).2.1, (unhide HN _ _).2.2.1, ?_, (unhide HN _ _).2.2.2.2.1, (unhide HN _ _).1, (unhide HN _ _).2.2.2.2.2⟩
          rw [← unhide HE]
          exact (unhide HN _ _).2.2.2.1
        case measure => simp [intOf]; omega
      · have hp := (unhide D).2.2.2.1.cell (i := 2) rfl
        have hcl : wr.cell? ⟨w.heap.size + 1 + 1, 7, none⟩ = some (.int .i64 0) := (unhide D).2.2.1.cell (by simp [doK])
        have hfr := (unhide D).2.2.1.free 7
        have HE : Hid ((doK I 2).setIfInBounds 7 (.int .i64 (I 7)) = doK I (2 + 1)) := by simp [Hid, doK]
        simp only [List.getElem_cons_zero, List.getElem_cons_succ, Nat.add_zero] at ck
        go_wp2
        go_roundw
        case rel =>
          refine ⟨2 + 1, by omega, rfl, (unhide HN _ _).2.1, (unhide HN _ _).2.2.1, ?_, (unhide HN _ _).2.2.2.2.1, (unhide HN _ _).1, (unhide HN _ _).2.2.2.2.2⟩
          rw [← unhide HE]
          exact (unhide HN _ _).2.2.2.1
        case measure => simp [intOf]; omega
    · obtain rfl : k = n := by omega
      go_wp2_with (first
        | refine wpList_load_row rfl 59 (.tmp 3) rfl (w.heap.size + 1 + 1) rfl 59 (doK I k) (0, 0) _ (unhide D).2.2.1 Tryz.underlying59 rfl sizeI16 ?_
        | refine wpList_store_row rfl 59 (.tmp 2) (.tmp 37) rfl (w.heap.size + 1) (doK I k) rfl rfl 59 _ (unhide D).2.1 sizeI16 rfl (by simp [doK, Value.oneCell']) ?_)
      refine bodyPost_ret (v := .agg (doK I k)) (results_cell_row Tryz.results131 _ _ (w.heap.size + 1) 59 _ (0, 0) _ rfl ((unhide D).2.1.rowC) Tryz.underlying59 rfl sizeI16) rfl ⟨rfl, ?_⟩
      exact extRow (unhide D).2.2.2.2.1 (by omega)
end Go.Proofs.YtglfhmlcmffoaaaGreat
