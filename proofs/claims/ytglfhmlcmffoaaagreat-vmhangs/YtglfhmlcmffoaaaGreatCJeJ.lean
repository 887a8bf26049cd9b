/- Several texts in one. -/
import Derived.Test.YtglfhmlcmffoaaaGreatCJa
import Derived.Test.YtglfhmlcmffoaaaGreatCJb
import Derived.Test.YtglfhmlcmffoaaaGreatCJc
import Derived.Test.YtglfhmlcmffoaaaGreatCJd
import Derived.Deep.Cut
import Derived.Test.YtglfhmlcmffoaaaGreatCHJ
/-
  Codes: the walk of fieldsMayBe, Op by Op (all). What the dump lacks is left out.
-/
namespace Go.Proofs.YtglfhmlcmffoaaaGreat
open Go.RowKit
set_option linter.unusedVariables false
set_option linter.unusedSimpArgs false

theorem fields_any (C : Cod) (v : Value) (L : List (Nat → Int)) (k : Nat) (w : World) (h : IR w v L) (hk : k < L.length) : Calls Tryz.prog 98 #[.agg #[.int .i64 (C).stage, v, .int .i64 (C).regs, .int .i64 (C).attr, .int .i64 (C).unif, .int .i64 (C).vary], .int .i64 (k : Int)] w fun e w' => e = .returned (.bool (fldB C L.length k L[k])) ∧ Ext w w' := by
  rcases (by omega : L[k] 0 = 1 ∨ L[k] 0 = 2 ∨ L[k] 0 = 3 ∨ L[k] 0 = 4 ∨ L[k] 0 = 5 ∨ L[k] 0 = 6 ∨ L[k] 0 = 7 ∨ L[k] 0 = 8 ∨ L[k] 0 = 9 ∨ L[k] 0 = 10 ∨ L[k] 0 = 11 ∨ L[k] 0 = 12 ∨ (L[k] 0 < 1 ∨ 12 < L[k] 0)) with h0 | h0 | h0 | h0 | h0 | h0 | h0 | h0 | h0 | h0 | h0 | h0 | h0
  · exact fld_1 C v L k w h hk h0
  · exact fld_2 C v L k w h hk h0
  · exact fld_3 C v L k w h hk h0
  · exact fld_4 C v L k w h hk h0
  · exact fld_5 C v L k w h hk h0
  · exact fld_6 C v L k w h hk h0
  · exact fld_7 C v L k w h hk h0
  · exact fld_8 C v L k w h hk h0
  · exact fld_9 C v L k w h hk h0
  · exact fld_10 C v L k w h hk h0
  · exact fld_11 C v L k w h hk h0
  · exact fld_12 C v L k w h hk h0
  · exact fld_none C v L k w h hk h0
end Go.Proofs.YtglfhmlcmffoaaaGreat

/-
  Codes: the walks of firstPlaces, justDo, just. What the dump lacks is left out.
-/
namespace Go.Proofs.YtglfhmlcmffoaaaGreat
open Go.RowKit
set_option linter.unusedVariables false
set_option linter.unusedSimpArgs false

def plA (I : Nat → Int) : Array Value := #[.int .i64 (if 0 < I 3 then I 12 else 0), .int .i64 (if 1 < I 3 then I 13 else 0), .int .i64 (if 2 < I 3 then I 14 else 0), .int .i64 (if 3 < I 3 then I 15 else 0)]

def plK (n x0 x1 x2 x3 : Int) (k : Nat) : Array Value := #[.int .i64 (if 0 < k ∧ 0 < n then x0 else 0), .int .i64 (if 1 < k ∧ 1 < n then x1 else 0), .int .i64 (if 2 < k ∧ 2 < n then x2 else 0), .int .i64 (if 3 < k ∧ 3 < n then x3 else 0)]

set_option maxRecDepth 10000 in
set_option maxHeartbeats 4000000 in
theorem firstP_any (I : Nat → Int) (w : World) : Calls Tryz.prog 132 #[.agg (insA I)] w fun e w' => e = .returned (.agg (plA I)) ∧ Ext w w' := by
  have HB0 := Blk.new w (insA I) 59
  have E : Hid (plA I = plK (I 3) (I 12) (I 13) (I 14) (I 15) 4) := by simp [Hid, plA, plK]
  have HI : Hid (∀ wx t, Blk wx w.heap.size (insA I) t → wx.cell? ⟨w.heap.size, 3, none⟩ = some (.int .i64 (I 3)) ∧ wx.cell? ⟨w.heap.size, 12, none⟩ = some (.int .i64 (I 12)) ∧ wx.cell? ⟨w.heap.size, 13, none⟩ = some (.int .i64 (I 13)) ∧ wx.cell? ⟨w.heap.size, 14, none⟩ = some (.int .i64 (I 14)) ∧ wx.cell? ⟨w.heap.size, 15, none⟩ = some (.int .i64 (I 15))) := fun wx t h => ⟨(cellJ h).2.2.2.1, cellP h⟩
  have HB := hide HB0
  clear HB0
  generalize plA I = y at *
  generalize insA I = cs at *
  generalize I 3 = n at *
  generalize I 12 = x0 at *
  generalize I 13 = x1 at *
  generalize I 14 = x2 at *
  generalize I 15 = x3 at *
  go_enter Tryz.func132, Tryz.ntmps132
  go_wp2
  go_loopw [5] (fun iv wr => ∃ k : Nat, k ≤ 4 ∧ iv = .int .i64 (k : Int) ∧ Blk wr w.heap.size cs 59 ∧ Blk wr (w.heap.size + 1) #[.int .i64 0, .int .i64 0, .int .i64 0, .int .i64 0] 57 ∧ Blk wr (w.heap.size + 1 + 1) (plK n x0 x1 x2 x3 k) 57 ∧ Ext w wr) (fun iv _ => 4 - (intOf iv).toNat)
  case atStart => exact ⟨0, by omega, rfl, ((unhide HB).alloc _).alloc _, (Blk.here (by simp)).alloc _, Blk.here (by simp), (((Ext.refl w).alloc _).alloc _).alloc _⟩
  case round =>
    obtain ⟨k, hk, rfl, hb0, hb1, hb2, hx⟩ := hrel
    have D := hide (And.intro hb0 (And.intro hb1 (And.intro hb2 hx)))
    obtain ⟨c3, p0, p1, p2, p3⟩ := unhide HI _ _ hb0
    clear hb0 hb1 hb2 hx
    by_cases h4 : k = 4
    · subst h4
      go_wp2_with (first
        | refine wpList_load_row rfl 57 (.tmp 3) rfl (w.heap.size + 1 + 1) rfl 57 _ (0, 0) _ (unhide D).2.2.1 Tryz.underlying57 rfl size4 ?_
        | refine wpList_store_row rfl 57 (.tmp 2) (.tmp 19) rfl (w.heap.size + 1) (plK n x0 x1 x2 x3 4) rfl rfl 57 _ (unhide D).2.1 size4 rfl (by simp [plK, Value.oneCell']) ?_)
      refine bodyPost_ret (v := .agg (plK n x0 x1 x2 x3 4)) (results_cell_row Tryz.results132 _ _ (w.heap.size + 1) 57 _ (0, 0) _ rfl ((unhide D).2.1.rowC) Tryz.underlying57 rfl size4) rfl ⟨by rw [unhide E], ?_⟩
      exact extRow (unhide D).2.2.2 (by omega)
    · have hk4 : (k : Int) < 4 := by omega
      have HF := hide ((unhide D).2.2.1.free k)
      have hf := unhide HF
      have HN : Hid (∀ u, Ext w (wr.setCell ⟨w.heap.size + 1 + 1, k, none⟩ u) ∧ Blk (wr.setCell ⟨w.heap.size + 1 + 1, k, none⟩ u) w.heap.size cs 59 ∧ Blk (wr.setCell ⟨w.heap.size + 1 + 1, k, none⟩ u) (w.heap.size + 1) #[.int .i64 0, .int .i64 0, .int .i64 0, .int .i64 0] 57 ∧ Blk (wr.setCell ⟨w.heap.size + 1 + 1, k, none⟩ u) (w.heap.size + 1 + 1) ((plK n x0 x1 x2 x3 k).setIfInBounds k u) 57) := fun u => ⟨extSet (unhide D).2.2.2 (by omega), (unhide D).1.other _ _ (by omega), (unhide D).2.1.other _ _ (by omega), (unhide D).2.2.1.set _ _⟩
      by_cases hn : (k : Int) < n
      · rcases (by omega : k = 0 ∨ k = 1 ∨ k = 2 ∨ k = 3) with rfl | rfl | rfl | rfl
        · have hcl : wr.cell? ⟨w.heap.size + 1 + 1, 0, none⟩ = some (.int .i64 0) := (unhide D).2.2.1.cell (by simp [plK])
          have HE : Hid ((plK n x0 x1 x2 x3 0).setIfInBounds 0 (.int .i64 x0) = plK n x0 x1 x2 x3 (0 + 1)) := by
            have hn' : (0 : Int) < n := by simpa using hn
            have h2 : ∀ j : Int, j ≤ 0 → j < n := fun j hj => by omega
            simp [Hid, plK, h2]
          go_wp2
          go_roundw
          case rel =>
            refine ⟨0 + 1, by omega, rfl, (unhide HN _).2.1, (unhide HN _).2.2.1, ?_, (unhide HN _).1⟩
            rw [← unhide HE]
            exact (unhide HN _).2.2.2
          case measure => simp [intOf]
        · have hcl : wr.cell? ⟨w.heap.size + 1 + 1, 1, none⟩ = some (.int .i64 0) := (unhide D).2.2.1.cell (by simp [plK])
          have HE : Hid ((plK n x0 x1 x2 x3 1).setIfInBounds 1 (.int .i64 x1) = plK n x0 x1 x2 x3 (1 + 1)) := by
            have hn' : (1 : Int) < n := by simpa using hn
            have h2 : ∀ j : Int, j ≤ 1 → j < n := fun j hj => by omega
            simp [Hid, plK, h2]
          go_wp2
          go_roundw
          case rel =>
            refine ⟨1 + 1, by omega, rfl, (unhide HN _).2.1, (unhide HN _).2.2.1, ?_, (unhide HN _).1⟩
            rw [← unhide HE]
            exact (unhide HN _).2.2.2
          case measure => simp [intOf]
        · have hcl : wr.cell? ⟨w.heap.size + 1 + 1, 2, none⟩ = some (.int .i64 0) := (unhide D).2.2.1.cell (by simp [plK])
          have HE : Hid ((plK n x0 x1 x2 x3 2).setIfInBounds 2 (.int .i64 x2) = plK n x0 x1 x2 x3 (2 + 1)) := by
            have hn' : (2 : Int) < n := by simpa using hn
            have h2 : ∀ j : Int, j ≤ 2 → j < n := fun j hj => by omega
            simp [Hid, plK, h2]
          go_wp2
          go_roundw
          case rel =>
            refine ⟨2 + 1, by omega, rfl, (unhide HN _).2.1, (unhide HN _).2.2.1, ?_, (unhide HN _).1⟩
            rw [← unhide HE]
            exact (unhide HN _).2.2.2
          case measure => simp [intOf]
        · have hcl : wr.cell? ⟨w.heap.size + 1 + 1, 3, none⟩ = some (.int .i64 0) := (unhide D).2.2.1.cell (by simp [plK])
          have HE : Hid ((plK n x0 x1 x2 x3 3).setIfInBounds 3 (.int .i64 x3) = plK n x0 x1 x2 x3 (3 + 1)) := by
            have hn' : (3 : Int) < n := by simpa using hn
            have h2 : ∀ j : Int, j ≤ 3 → j < n := fun j hj => by omega
            simp [Hid, plK, h2]
          go_wp2
          go_roundw
          case rel =>
            refine ⟨3 + 1, by omega, rfl, (unhide HN _).2.1, (unhide HN _).2.2.1, ?_, (unhide HN _).1⟩
            rw [← unhide HE]
            exact (unhide HN _).2.2.2
          case measure => simp [intOf]
      · go_wp2
        go_roundw
        case rel =>
          refine ⟨k + 1, by omega, by go_num, (unhide D).1, (unhide D).2.1, ?_, (unhide D).2.2.2⟩
          have e : plK n x0 x1 x2 x3 (k + 1) = plK n x0 x1 x2 x3 k := by
            rcases (by omega : k = 0 ∨ k = 1 ∨ k = 2 ∨ k = 3) with rfl | rfl | rfl | rfl
            · simp [plK]; omega
            · simp [plK]; omega
            · simp [plK]; omega
            · simp [plK]; omega
          rw [e]
          exact (unhide D).2.2.1
        case measure => simp [intOf]; omega
end Go.Proofs.YtglfhmlcmffoaaaGreat
