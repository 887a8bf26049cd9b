/-
  The loops of the document's Apply, one theorem a region. Written by mkvd.py.
-/
import Derived.Test.YtglfhmlcmffoaaaGreatVDa
import Derived.Test.YtglfhmlcmffoaaaGreatVMDJ
namespace Go.Proofs.YtglfhmlcmffoaaaGreat
open Go.RowKit
set_option linter.unusedVariables false
set_option linter.unusedSimpArgs false
theorem cellGr {w w' : World} {r b i : Nat} {v : Value} (hg : w.grownBy w' (some r)) (h : w.cell? ⟨b, i, none⟩ = some v) (hne : b ≠ r) : w'.cell? ⟨b, i, none⟩ = some v := by
  rw [World.cell?_of_block (w := w) (hg.block b (World.block_lt_of_cell? w _ h) (by simpa using hne))]
  exact h
theorem extGr {w w1 : World} (r : Nat) (hx : Ext w w1) : w.grownBy w1 (some r) := ⟨hx.os, hx.tape, hx.output, hx.size, fun i hi _ => hx.block i hi⟩

set_option maxRecDepth 10000 in
set_option maxHeartbeats 8000000 in
theorem ap30_any (fn : Int) (m : Nat) (a b c f : Nat → Int) (w : World) (h4 : m ≤ 4) (d29 : (fn == 29) = false) (d30 : (fn == 30) = false) (d31 : (fn == 31) = false) (d32 : (fn == 32) = false) (d33 : (fn == 33) = false) (d34 : (fn == 34) = false) (d35 : (fn == 35) = false) (d11 : (fn == 11) = false) (d17 : (fn == 17) = false) (d18 : (fn == 18) = false) (d19 : (fn == 19) = false) (d20 : (fn == 20) = false) (d21 : (fn == 21) = false) (Ia : Hid (∀ i, I32 (a i))) (Ib : Hid (∀ i, I32 (b i)))
    (HC : Hid (∀ (k : Nat) (wx : World), Calls Tryz.prog 56 #[.int .i64 fn, .int .i64 (a k), .int .i64 (b k)] wx fun e w' => e = .returned (.int .i32 (f k)) ∧ w' = wx)) :
    Calls Tryz.prog 34 #[.int .i64 fn, .int .i64 (2 : Int), .int .i64 (m : Int), .agg #[.int .i32 (a 0), .int .i32 (a 1), .int .i32 (a 2), .int .i32 (a 3)], .agg #[.int .i32 (b 0), .int .i32 (b 1), .int .i32 (b 2), .int .i32 (b 3)], .agg #[.int .i32 (c 0), .int .i32 (c 1), .int .i32 (c 2), .int .i32 (c 3)]] w fun e w' => e = .returned (.agg #[.int .i32 (cut m f 0), .int .i32 (cut m f 1), .int .i32 (cut m f 2), .int .i32 (cut m f 3)]) ∧ Ext w w' := by
  have h0 := hide (show Blk (((((w.alloc (.cells #[.int .i32 (a 0), .int .i32 (a 1), .int .i32 (a 2), .int .i32 (a 3)] 28)).alloc (.cells #[.int .i32 (b 0), .int .i32 (b 1), .int .i32 (b 2), .int .i32 (b 3)] 28)).alloc (.cells #[.int .i32 (c 0), .int .i32 (c 1), .int .i32 (c 2), .int .i32 (c 3)] 28)).alloc (.cells #[.int .i32 0, .int .i32 0, .int .i32 0, .int .i32 0] 28)).alloc (.cells #[.int .i32 0, .int .i32 0, .int .i32 0, .int .i32 0] 28)) w.heap.size #[.int .i32 (a 0), .int .i32 (a 1), .int .i32 (a 2), .int .i32 (a 3)] 28 ∧ Blk (((((w.alloc (.cells #[.int .i32 (a 0), .int .i32 (a 1), .int .i32 (a 2), .int .i32 (a 3)] 28)).alloc (.cells #[.int .i32 (b 0), .int .i32 (b 1), .int .i32 (b 2), .int .i32 (b 3)] 28)).alloc (.cells #[.int .i32 (c 0), .int .i32 (c 1), .int .i32 (c 2), .int .i32 (c 3)] 28)).alloc (.cells #[.int .i32 0, .int .i32 0, .int .i32 0, .int .i32 0] 28)).alloc (.cells #[.int .i32 0, .int .i32 0, .int .i32 0, .int .i32 0] 28)) (w.heap.size + 1) #[.int .i32 (b 0), .int .i32 (b 1), .int .i32 (b 2), .int .i32 (b 3)] 28 ∧ Blk (((((w.alloc (.cells #[.int .i32 (a 0), .int .i32 (a 1), .int .i32 (a 2), .int .i32 (a 3)] 28)).alloc (.cells #[.int .i32 (b 0), .int .i32 (b 1), .int .i32 (b 2), .int .i32 (b 3)] 28)).alloc (.cells #[.int .i32 (c 0), .int .i32 (c 1), .int .i32 (c 2), .int .i32 (c 3)] 28)).alloc (.cells #[.int .i32 0, .int .i32 0, .int .i32 0, .int .i32 0] 28)).alloc (.cells #[.int .i32 0, .int .i32 0, .int .i32 0, .int .i32 0] 28)) (w.heap.size + 1 + 1 + 1) #[.int .i32 (nul 0), .int .i32 (nul 1), .int .i32 (nul 2), .int .i32 (nul 3)] 28 ∧ Blk (((((w.alloc (.cells #[.int .i32 (a 0), .int .i32 (a 1), .int .i32 (a 2), .int .i32 (a 3)] 28)).alloc (.cells #[.int .i32 (b 0), .int .i32 (b 1), .int .i32 (b 2), .int .i32 (b 3)] 28)).alloc (.cells #[.int .i32 (c 0), .int .i32 (c 1), .int .i32 (c 2), .int .i32 (c 3)] 28)).alloc (.cells #[.int .i32 0, .int .i32 0, .int .i32 0, .int .i32 0] 28)).alloc (.cells #[.int .i32 0, .int .i32 0, .int .i32 0, .int .i32 0] 28)) (w.heap.size + 1 + 1 + 1 + 1) #[.int .i32 (nul 0), .int .i32 (nul 1), .int .i32 (nul 2), .int .i32 (nul 3)] 28 ∧ Ext w (((((w.alloc (.cells #[.int .i32 (a 0), .int .i32 (a 1), .int .i32 (a 2), .int .i32 (a 3)] 28)).alloc (.cells #[.int .i32 (b 0), .int .i32 (b 1), .int .i32 (b 2), .int .i32 (b 3)] 28)).alloc (.cells #[.int .i32 (c 0), .int .i32 (c 1), .int .i32 (c 2), .int .i32 (c 3)] 28)).alloc (.cells #[.int .i32 0, .int .i32 0, .int .i32 0, .int .i32 0] 28)).alloc (.cells #[.int .i32 0, .int .i32 0, .int .i32 0, .int .i32 0] 28)) from ⟨((((Blk.new w _ _).alloc _).alloc _).alloc _).alloc _, (((Blk.at (by simp)).alloc _).alloc _).alloc _, (Blk.at (by simp)).alloc _, Blk.at (by simp), (((((Ext.refl w).alloc _).alloc _).alloc _).alloc _).alloc _⟩)
  go_enter Tryz.func34, Tryz.ntmps34
  go_wp2
  generalize (((((w.alloc (.cells #[.int .i32 (a 0), .int .i32 (a 1), .int .i32 (a 2), .int .i32 (a 3)] 28)).alloc (.cells #[.int .i32 (b 0), .int .i32 (b 1), .int .i32 (b 2), .int .i32 (b 3)] 28)).alloc (.cells #[.int .i32 (c 0), .int .i32 (c 1), .int .i32 (c 2), .int .i32 (c 3)] 28)).alloc (.cells #[.int .i32 0, .int .i32 0, .int .i32 0, .int .i32 0] 28)).alloc (.cells #[.int .i32 0, .int .i32 0, .int .i32 0, .int .i32 0] 28)) = w4 at *
  go_loopw [14] (fun p wr => ∃ k : Nat, k ≤ m ∧ p = .int .i64 (k : Int) ∧ Hid (Blk wr w.heap.size #[.int .i32 (a 0), .int .i32 (a 1), .int .i32 (a 2), .int .i32 (a 3)] 28 ∧ Blk wr (w.heap.size + 1) #[.int .i32 (b 0), .int .i32 (b 1), .int .i32 (b 2), .int .i32 (b 3)] 28 ∧ Blk wr (w.heap.size + 1 + 1 + 1) #[.int .i32 (nul 0), .int .i32 (nul 1), .int .i32 (nul 2), .int .i32 (nul 3)] 28 ∧ Blk wr (w.heap.size + 1 + 1 + 1 + 1) #[.int .i32 (cut k f 0), .int .i32 (cut k f 1), .int .i32 (cut k f 2), .int .i32 (cut k f 3)] 28 ∧ Ext w wr)) (fun p _ => m - (intOf p).toNat)
  case atStart =>
    obtain ⟨k1, k2, k3, k4, k5⟩ := unhide h0
    exact ⟨0, Nat.zero_le _, rfl, k1, k2, k3, by simp only [cut_zero]; exact k4, k5⟩
  case round =>
    obtain ⟨k, hk, rfl, hrel⟩ := hrel
    have R0 := hide hrel
    clear h0 hrel
    by_cases hlt : k < m
    case pos =>
      have hki : (k : Int) < (m : Int) := by omega
      have hk4 : k < 4 := by omega
      have hk4i : (k : Int) < 4 := by omega
      have ak := (unhide R0).1.vec k hk4
      have bk := (unhide R0).2.1.vec k hk4
      have fk := (unhide R0).2.2.2.1.free k
      have ck := (unhide R0).2.2.2.1.vec k hk4
      have HCV := hide (fun wx => unhide HC k wx)
      have hak := unhide Ia k
      have hbk := unhide Ib k
      unfold I32 at hak hbk
      have wa : IntKind.i64.wrap (a k) = a k := by simp [IntKind.wrap, IntKind.bits, IntKind.signed]; omega
      have wb : IntKind.i64.wrap (b k) = b k := by simp [IntKind.wrap, IntKind.bits, IntKind.signed]; omega
      have hZ0 : w.heap.size ≠ w.heap.size + 1 + 1 + 1 + 1 := by omega
      have hZ1 : w.heap.size + 1 ≠ w.heap.size + 1 + 1 + 1 + 1 := by omega
      have hZ3 : w.heap.size + 1 + 1 + 1 ≠ w.heap.size + 1 + 1 + 1 + 1 := by omega
      have HCL := hide (fun wx (hg : wr.grownBy wx (some (w.heap.size + 1 + 1 + 1 + 1))) => show wx.cell? ⟨w.heap.size, k, none⟩ = some (.int .i32 (a k)) ∧ wx.cell? ⟨w.heap.size + 1, k, none⟩ = some (.int .i32 (b k)) from ⟨cellGr hg ak hZ0, cellGr hg bk hZ1⟩)
      go_wp2
      go_region_held3 (fun wx => wx.cell? ⟨w.heap.size, k, none⟩ = some (.int .i32 (a k)) ∧ wx.cell? ⟨w.heap.size + 1, k, none⟩ = some (.int .i32 (b k)))
        (first | with_reducible exact unhide HCL _ (extGr _ ((Ext.refl _).drew)) | with_reducible exact unhide HCL _ ((extGr _ ((Ext.refl _).drew)).trans (grownBy_set _ _ _ _)))
        (first | (go_at_call 56; refine (unhide HCV _).mono ?_; rintro e w5 ⟨rfl, rfl⟩))
      all_goals
        go_wp2
        go_roundw
        case rel =>
          have hg := (extGr (w.heap.size + 1 + 1 + 1 + 1) ((Ext.refl wr).drew)).trans (grownBy_set wr.drew (w.heap.size + 1 + 1 + 1 + 1) k (.int .i32 (f k)))
          refine ⟨k + 1, by omega, by go_num, (unhide R0).1.grown hg hZ0, (unhide R0).2.1.grown hg hZ1, (unhide R0).2.2.1.grown hg hZ3, ?_, below_grown (unhide R0).2.2.2.2 hg (unhide R0).2.2.2.2.size (by omega)⟩
          have := ((unhide R0).2.2.2.1.ext ((Ext.refl wr).drew)).set k (.int .i32 (f k))
          rw [cut_set f k hk4] at this
          exact this
        case measure => simp [intOf]; omega
    case neg =>
      obtain rfl : k = m := by omega
      obtain ⟨c0, c1, c2, c3⟩ := (unhide R0).2.2.2.1.vec4
      obtain ⟨r0, r1, r2, r3⟩ := (unhide R0).2.2.1.vec4
      obtain ⟨f0, f1, f2, f3⟩ := (unhide R0).2.2.1.free4
      go_wp2
      obtain ⟨q0, q1, q2, q3⟩ := lay4 (unhide R0).2.2.1 (.int .i32 (cut k f 0)) (.int .i32 (cut k f 1)) (.int .i32 (cut k f 2)) (.int .i32 (cut k f 3))
      refine bodyPost_ret (v := .agg #[.int .i32 (cut k f 0), .int .i32 (cut k f 1), .int .i32 (cut k f 2), .int .i32 (cut k f 3)]) (by simp [results, Tryz.results34, go_sem, q0, q1, q2, q3]) rfl ⟨rfl, ?_⟩
      exact ext_set4 (unhide R0).2.2.2.2 (by omega)

set_option maxRecDepth 10000 in
set_option maxHeartbeats 8000000 in
theorem ap32_any (fn base : Int) (m : Nat) (a b c f : Nat → Int) (w : World) (h4 : m ≤ 4) (d29 : (fn == 29) = false) (d30 : (fn == 30) = false) (d31 : (fn == 31) = false) (d32 : (fn == 32) = false) (d33 : (fn == 33) = false) (d34 : (fn == 34) = false) (d35 : (fn == 35) = false) (d11 : (fn == 11) = false) (d17 : (fn == 17) = false) (d18 : (fn == 18) = false) (d19 : (fn == 19) = false) (d20 : (fn == 20) = false) (d21 : (fn == 21) = false) (db : (base == 2) = false) (g24 : decide (24 ≤ fn) = true) (g27 : decide (fn ≤ 27) = true) (hw : IntKind.i64.wrap (fn - 24) = fn - 24)
    (HC : Hid (∀ (k : Nat) (wx : World), Calls Tryz.prog 57 #[.int .i64 (fn - 24), .int .i32 (a k), .int .i32 (b k)] wx fun e w' => e = .returned (.int .i32 (f k)) ∧ w' = wx)) :
    Calls Tryz.prog 34 #[.int .i64 fn, .int .i64 base, .int .i64 (m : Int), .agg #[.int .i32 (a 0), .int .i32 (a 1), .int .i32 (a 2), .int .i32 (a 3)], .agg #[.int .i32 (b 0), .int .i32 (b 1), .int .i32 (b 2), .int .i32 (b 3)], .agg #[.int .i32 (c 0), .int .i32 (c 1), .int .i32 (c 2), .int .i32 (c 3)]] w fun e w' => e = .returned (.agg #[.int .i32 (cut m f 0), .int .i32 (cut m f 1), .int .i32 (cut m f 2), .int .i32 (cut m f 3)]) ∧ Ext w w' := by
  have h0 := hide (show Blk (((((w.alloc (.cells #[.int .i32 (a 0), .int .i32 (a 1), .int .i32 (a 2), .int .i32 (a 3)] 28)).alloc (.cells #[.int .i32 (b 0), .int .i32 (b 1), .int .i32 (b 2), .int .i32 (b 3)] 28)).alloc (.cells #[.int .i32 (c 0), .int .i32 (c 1), .int .i32 (c 2), .int .i32 (c 3)] 28)).alloc (.cells #[.int .i32 0, .int .i32 0, .int .i32 0, .int .i32 0] 28)).alloc (.cells #[.int .i32 0, .int .i32 0, .int .i32 0, .int .i32 0] 28)) w.heap.size #[.int .i32 (a 0), .int .i32 (a 1), .int .i32 (a 2), .int .i32 (a 3)] 28 ∧ Blk (((((w.alloc (.cells #[.int .i32 (a 0), .int .i32 (a 1), .int .i32 (a 2), .int .i32 (a 3)] 28)).alloc (.cells #[.int .i32 (b 0), .int .i32 (b 1), .int .i32 (b 2), .int .i32 (b 3)] 28)).alloc (.cells #[.int .i32 (c 0), .int .i32 (c 1), .int .i32 (c 2), .int .i32 (c 3)] 28)).alloc (.cells #[.int .i32 0, .int .i32 0, .int .i32 0, .int .i32 0] 28)).alloc (.cells #[.int .i32 0, .int .i32 0, .int .i32 0, .int .i32 0] 28)) (w.heap.size + 1) #[.int .i32 (b 0), .int .i32 (b 1), .int .i32 (b 2), .int .i32 (b 3)] 28 ∧ Blk (((((w.alloc (.cells #[.int .i32 (a 0), .int .i32 (a 1), .int .i32 (a 2), .int .i32 (a 3)] 28)).alloc (.cells #[.int .i32 (b 0), .int .i32 (b 1), .int .i32 (b 2), .int .i32 (b 3)] 28)).alloc (.cells #[.int .i32 (c 0), .int .i32 (c 1), .int .i32 (c 2), .int .i32 (c 3)] 28)).alloc (.cells #[.int .i32 0, .int .i32 0, .int .i32 0, .int .i32 0] 28)).alloc (.cells #[.int .i32 0, .int .i32 0, .int .i32 0, .int .i32 0] 28)) (w.heap.size + 1 + 1 + 1) #[.int .i32 (nul 0), .int .i32 (nul 1), .int .i32 (nul 2), .int .i32 (nul 3)] 28 ∧ Blk (((((w.alloc (.cells #[.int .i32 (a 0), .int .i32 (a 1), .int .i32 (a 2), .int .i32 (a 3)] 28)).alloc (.cells #[.int .i32 (b 0), .int .i32 (b 1), .int .i32 (b 2), .int .i32 (b 3)] 28)).alloc (.cells #[.int .i32 (c 0), .int .i32 (c 1), .int .i32 (c 2), .int .i32 (c 3)] 28)).alloc (.cells #[.int .i32 0, .int .i32 0, .int .i32 0, .int .i32 0] 28)).alloc (.cells #[.int .i32 0, .int .i32 0, .int .i32 0, .int .i32 0] 28)) (w.heap.size + 1 + 1 + 1 + 1) #[.int .i32 (nul 0), .int .i32 (nul 1), .int .i32 (nul 2), .int .i32 (nul 3)] 28 ∧ Ext w (((((w.alloc (.cells #[.int .i32 (a 0), .int .i32 (a 1), .int .i32 (a 2), .int .i32 (a 3)] 28)).alloc (.cells #[.int .i32 (b 0), .int .i32 (b 1), .int .i32 (b 2), .int .i32 (b 3)] 28)).alloc (.cells #[.int .i32 (c 0), .int .i32 (c 1), .int .i32 (c 2), .int .i32 (c 3)] 28)).alloc (.cells #[.int .i32 0, .int .i32 0, .int .i32 0, .int .i32 0] 28)).alloc (.cells #[.int .i32 0, .int .i32 0, .int .i32 0, .int .i32 0] 28)) from ⟨((((Blk.new w _ _).alloc _).alloc _).alloc _).alloc _, (((Blk.at (by simp)).alloc _).alloc _).alloc _, (Blk.at (by simp)).alloc _, Blk.at (by simp), (((((Ext.refl w).alloc _).alloc _).alloc _).alloc _).alloc _⟩)
  go_enter Tryz.func34, Tryz.ntmps34
  go_wp2
  generalize (((((w.alloc (.cells #[.int .i32 (a 0), .int .i32 (a 1), .int .i32 (a 2), .int .i32 (a 3)] 28)).alloc (.cells #[.int .i32 (b 0), .int .i32 (b 1), .int .i32 (b 2), .int .i32 (b 3)] 28)).alloc (.cells #[.int .i32 (c 0), .int .i32 (c 1), .int .i32 (c 2), .int .i32 (c 3)] 28)).alloc (.cells #[.int .i32 0, .int .i32 0, .int .i32 0, .int .i32 0] 28)).alloc (.cells #[.int .i32 0, .int .i32 0, .int .i32 0, .int .i32 0] 28)) = w4 at *
  go_loopw [14] (fun p wr => ∃ k : Nat, k ≤ m ∧ p = .int .i64 (k : Int) ∧ Hid (Blk wr w.heap.size #[.int .i32 (a 0), .int .i32 (a 1), .int .i32 (a 2), .int .i32 (a 3)] 28 ∧ Blk wr (w.heap.size + 1) #[.int .i32 (b 0), .int .i32 (b 1), .int .i32 (b 2), .int .i32 (b 3)] 28 ∧ Blk wr (w.heap.size + 1 + 1 + 1) #[.int .i32 (nul 0), .int .i32 (nul 1), .int .i32 (nul 2), .int .i32 (nul 3)] 28 ∧ Blk wr (w.heap.size + 1 + 1 + 1 + 1) #[.int .i32 (cut k f 0), .int .i32 (cut k f 1), .int .i32 (cut k f 2), .int .i32 (cut k f 3)] 28 ∧ Ext w wr)) (fun p _ => m - (intOf p).toNat)
  case atStart =>
    obtain ⟨k1, k2, k3, k4, k5⟩ := unhide h0
    exact ⟨0, Nat.zero_le _, rfl, k1, k2, k3, by simp only [cut_zero]; exact k4, k5⟩
  case round =>
    obtain ⟨k, hk, rfl, hrel⟩ := hrel
    have R0 := hide hrel
    clear h0 hrel
    by_cases hlt : k < m
    case pos =>
      have hki : (k : Int) < (m : Int) := by omega
      have hk4 : k < 4 := by omega
      have hk4i : (k : Int) < 4 := by omega
      have ak := (unhide R0).1.vec k hk4
      have bk := (unhide R0).2.1.vec k hk4
      have fk := (unhide R0).2.2.2.1.free k
      have ck := (unhide R0).2.2.2.1.vec k hk4
      have HCV := hide (fun wx => unhide HC k wx)
      have hZ0 : w.heap.size ≠ w.heap.size + 1 + 1 + 1 + 1 := by omega
      have hZ1 : w.heap.size + 1 ≠ w.heap.size + 1 + 1 + 1 + 1 := by omega
      have hZ3 : w.heap.size + 1 + 1 + 1 ≠ w.heap.size + 1 + 1 + 1 + 1 := by omega
      have HCL := hide (fun wx (hg : wr.grownBy wx (some (w.heap.size + 1 + 1 + 1 + 1))) => show wx.cell? ⟨w.heap.size, k, none⟩ = some (.int .i32 (a k)) ∧ wx.cell? ⟨w.heap.size + 1, k, none⟩ = some (.int .i32 (b k)) from ⟨cellGr hg ak hZ0, cellGr hg bk hZ1⟩)
      go_wp2
      go_region_held3 (fun wx => wx.cell? ⟨w.heap.size, k, none⟩ = some (.int .i32 (a k)) ∧ wx.cell? ⟨w.heap.size + 1, k, none⟩ = some (.int .i32 (b k)))
        (first | with_reducible exact unhide HCL _ (extGr _ ((Ext.refl _).drew)) | with_reducible exact unhide HCL _ ((extGr _ ((Ext.refl _).drew)).trans (grownBy_set _ _ _ _)))
        (first | (go_at_call 57; refine (unhide HCV _).mono ?_; rintro e w5 ⟨rfl, rfl⟩))
      all_goals
        go_wp2
        go_roundw
        case rel =>
          have hg := (extGr (w.heap.size + 1 + 1 + 1 + 1) ((Ext.refl wr).drew)).trans (grownBy_set wr.drew (w.heap.size + 1 + 1 + 1 + 1) k (.int .i32 (f k)))
          refine ⟨k + 1, by omega, by go_num, (unhide R0).1.grown hg hZ0, (unhide R0).2.1.grown hg hZ1, (unhide R0).2.2.1.grown hg hZ3, ?_, below_grown (unhide R0).2.2.2.2 hg (unhide R0).2.2.2.2.size (by omega)⟩
          have := ((unhide R0).2.2.2.1.ext ((Ext.refl wr).drew)).set k (.int .i32 (f k))
          rw [cut_set f k hk4] at this
          exact this
        case measure => simp [intOf]; omega
    case neg =>
      obtain rfl : k = m := by omega
      obtain ⟨c0, c1, c2, c3⟩ := (unhide R0).2.2.2.1.vec4
      obtain ⟨r0, r1, r2, r3⟩ := (unhide R0).2.2.1.vec4
      obtain ⟨f0, f1, f2, f3⟩ := (unhide R0).2.2.1.free4
      go_wp2
      obtain ⟨q0, q1, q2, q3⟩ := lay4 (unhide R0).2.2.1 (.int .i32 (cut k f 0)) (.int .i32 (cut k f 1)) (.int .i32 (cut k f 2)) (.int .i32 (cut k f 3))
      refine bodyPost_ret (v := .agg #[.int .i32 (cut k f 0), .int .i32 (cut k f 1), .int .i32 (cut k f 2), .int .i32 (cut k f 3)]) (by simp [results, Tryz.results34, go_sem, q0, q1, q2, q3]) rfl ⟨rfl, ?_⟩
      exact ext_set4 (unhide R0).2.2.2.2 (by omega)

set_option maxRecDepth 10000 in
set_option maxHeartbeats 8000000 in
theorem ap34_any (base : Int) (m : Nat) (a b c f : Nat → Int) (w : World) (h4 : m ≤ 4) (db : (base == 2) = false)
    (HC : Hid (∀ (k : Nat) (wx : World), Calls Tryz.prog 58 #[.int .i32 (a k)] wx fun e w' => e = .returned (.int .i32 (f k)) ∧ Ext wx w')) :
    Calls Tryz.prog 34 #[.int .i64 (28 : Int), .int .i64 base, .int .i64 (m : Int), .agg #[.int .i32 (a 0), .int .i32 (a 1), .int .i32 (a 2), .int .i32 (a 3)], .agg #[.int .i32 (b 0), .int .i32 (b 1), .int .i32 (b 2), .int .i32 (b 3)], .agg #[.int .i32 (c 0), .int .i32 (c 1), .int .i32 (c 2), .int .i32 (c 3)]] w fun e w' => e = .returned (.agg #[.int .i32 (cut m f 0), .int .i32 (cut m f 1), .int .i32 (cut m f 2), .int .i32 (cut m f 3)]) ∧ Ext w w' := by
  have h0 := hide (show Blk (((((w.alloc (.cells #[.int .i32 (a 0), .int .i32 (a 1), .int .i32 (a 2), .int .i32 (a 3)] 28)).alloc (.cells #[.int .i32 (b 0), .int .i32 (b 1), .int .i32 (b 2), .int .i32 (b 3)] 28)).alloc (.cells #[.int .i32 (c 0), .int .i32 (c 1), .int .i32 (c 2), .int .i32 (c 3)] 28)).alloc (.cells #[.int .i32 0, .int .i32 0, .int .i32 0, .int .i32 0] 28)).alloc (.cells #[.int .i32 0, .int .i32 0, .int .i32 0, .int .i32 0] 28)) w.heap.size #[.int .i32 (a 0), .int .i32 (a 1), .int .i32 (a 2), .int .i32 (a 3)] 28 ∧ Blk (((((w.alloc (.cells #[.int .i32 (a 0), .int .i32 (a 1), .int .i32 (a 2), .int .i32 (a 3)] 28)).alloc (.cells #[.int .i32 (b 0), .int .i32 (b 1), .int .i32 (b 2), .int .i32 (b 3)] 28)).alloc (.cells #[.int .i32 (c 0), .int .i32 (c 1), .int .i32 (c 2), .int .i32 (c 3)] 28)).alloc (.cells #[.int .i32 0, .int .i32 0, .int .i32 0, .int .i32 0] 28)).alloc (.cells #[.int .i32 0, .int .i32 0, .int .i32 0, .int .i32 0] 28)) (w.heap.size + 1) #[.int .i32 (b 0), .int .i32 (b 1), .int .i32 (b 2), .int .i32 (b 3)] 28 ∧ Blk (((((w.alloc (.cells #[.int .i32 (a 0), .int .i32 (a 1), .int .i32 (a 2), .int .i32 (a 3)] 28)).alloc (.cells #[.int .i32 (b 0), .int .i32 (b 1), .int .i32 (b 2), .int .i32 (b 3)] 28)).alloc (.cells #[.int .i32 (c 0), .int .i32 (c 1), .int .i32 (c 2), .int .i32 (c 3)] 28)).alloc (.cells #[.int .i32 0, .int .i32 0, .int .i32 0, .int .i32 0] 28)).alloc (.cells #[.int .i32 0, .int .i32 0, .int .i32 0, .int .i32 0] 28)) (w.heap.size + 1 + 1 + 1) #[.int .i32 (nul 0), .int .i32 (nul 1), .int .i32 (nul 2), .int .i32 (nul 3)] 28 ∧ Blk (((((w.alloc (.cells #[.int .i32 (a 0), .int .i32 (a 1), .int .i32 (a 2), .int .i32 (a 3)] 28)).alloc (.cells #[.int .i32 (b 0), .int .i32 (b 1), .int .i32 (b 2), .int .i32 (b 3)] 28)).alloc (.cells #[.int .i32 (c 0), .int .i32 (c 1), .int .i32 (c 2), .int .i32 (c 3)] 28)).alloc (.cells #[.int .i32 0, .int .i32 0, .int .i32 0, .int .i32 0] 28)).alloc (.cells #[.int .i32 0, .int .i32 0, .int .i32 0, .int .i32 0] 28)) (w.heap.size + 1 + 1 + 1 + 1) #[.int .i32 (nul 0), .int .i32 (nul 1), .int .i32 (nul 2), .int .i32 (nul 3)] 28 ∧ Ext w (((((w.alloc (.cells #[.int .i32 (a 0), .int .i32 (a 1), .int .i32 (a 2), .int .i32 (a 3)] 28)).alloc (.cells #[.int .i32 (b 0), .int .i32 (b 1), .int .i32 (b 2), .int .i32 (b 3)] 28)).alloc (.cells #[.int .i32 (c 0), .int .i32 (c 1), .int .i32 (c 2), .int .i32 (c 3)] 28)).alloc (.cells #[.int .i32 0, .int .i32 0, .int .i32 0, .int .i32 0] 28)).alloc (.cells #[.int .i32 0, .int .i32 0, .int .i32 0, .int .i32 0] 28)) from ⟨((((Blk.new w _ _).alloc _).alloc _).alloc _).alloc _, (((Blk.at (by simp)).alloc _).alloc _).alloc _, (Blk.at (by simp)).alloc _, Blk.at (by simp), (((((Ext.refl w).alloc _).alloc _).alloc _).alloc _).alloc _⟩)
  go_enter Tryz.func34, Tryz.ntmps34
  go_wp2
  generalize (((((w.alloc (.cells #[.int .i32 (a 0), .int .i32 (a 1), .int .i32 (a 2), .int .i32 (a 3)] 28)).alloc (.cells #[.int .i32 (b 0), .int .i32 (b 1), .int .i32 (b 2), .int .i32 (b 3)] 28)).alloc (.cells #[.int .i32 (c 0), .int .i32 (c 1), .int .i32 (c 2), .int .i32 (c 3)] 28)).alloc (.cells #[.int .i32 0, .int .i32 0, .int .i32 0, .int .i32 0] 28)).alloc (.cells #[.int .i32 0, .int .i32 0, .int .i32 0, .int .i32 0] 28)) = w4 at *
  go_loopw [14] (fun p wr => ∃ k : Nat, k ≤ m ∧ p = .int .i64 (k : Int) ∧ Hid (Blk wr w.heap.size #[.int .i32 (a 0), .int .i32 (a 1), .int .i32 (a 2), .int .i32 (a 3)] 28 ∧ Blk wr (w.heap.size + 1) #[.int .i32 (b 0), .int .i32 (b 1), .int .i32 (b 2), .int .i32 (b 3)] 28 ∧ Blk wr (w.heap.size + 1 + 1 + 1) #[.int .i32 (nul 0), .int .i32 (nul 1), .int .i32 (nul 2), .int .i32 (nul 3)] 28 ∧ Blk wr (w.heap.size + 1 + 1 + 1 + 1) #[.int .i32 (cut k f 0), .int .i32 (cut k f 1), .int .i32 (cut k f 2), .int .i32 (cut k f 3)] 28 ∧ Ext w wr)) (fun p _ => m - (intOf p).toNat)
  case atStart =>
    obtain ⟨k1, k2, k3, k4, k5⟩ := unhide h0
    exact ⟨0, Nat.zero_le _, rfl, k1, k2, k3, by simp only [cut_zero]; exact k4, k5⟩
  case round =>
    obtain ⟨k, hk, rfl, hrel⟩ := hrel
    have R0 := hide hrel
    clear h0 hrel
    by_cases hlt : k < m
    case pos =>
      have hki : (k : Int) < (m : Int) := by omega
      have hk4 : k < 4 := by omega
      have hk4i : (k : Int) < 4 := by omega
      have ak := (unhide R0).1.vec k hk4
      have bk := (unhide R0).2.1.vec k hk4
      have fk := (unhide R0).2.2.2.1.free k
      have ck := (unhide R0).2.2.2.1.vec k hk4
      have HCV := hide (fun wx => unhide HC k wx)
      have hZ0 : w.heap.size ≠ w.heap.size + 1 + 1 + 1 + 1 := by omega
      have hZ1 : w.heap.size + 1 ≠ w.heap.size + 1 + 1 + 1 + 1 := by omega
      have hZ3 : w.heap.size + 1 + 1 + 1 ≠ w.heap.size + 1 + 1 + 1 + 1 := by omega
      have HCL := hide (fun wx (hg : wr.grownBy wx (some (w.heap.size + 1 + 1 + 1 + 1))) => show wx.cell? ⟨w.heap.size, k, none⟩ = some (.int .i32 (a k)) ∧ wx.cell? ⟨w.heap.size + 1, k, none⟩ = some (.int .i32 (b k)) from ⟨cellGr hg ak hZ0, cellGr hg bk hZ1⟩)
      go_wp2_with (first | (go_at_call 58; refine (unhide HCV _).mono ?_; rintro e w5 ⟨rfl, hx5⟩; have X5 := hide (hx5); clear hx5; have fk5 := ((unhide R0).2.2.2.1.ext (unhide X5)).free k; have ck5 := ((unhide R0).2.2.2.1.ext (unhide X5)).vec k hk4))
      all_goals
        go_wp2
        go_roundw
        case rel =>
          have hg := (extGr (w.heap.size + 1 + 1 + 1 + 1) (unhide X5)).trans (grownBy_set w5 (w.heap.size + 1 + 1 + 1 + 1) k (.int .i32 (f k)))
          refine ⟨k + 1, by omega, by go_num, (unhide R0).1.grown hg hZ0, (unhide R0).2.1.grown hg hZ1, (unhide R0).2.2.1.grown hg hZ3, ?_, below_grown (unhide R0).2.2.2.2 hg (unhide R0).2.2.2.2.size (by omega)⟩
          have := ((unhide R0).2.2.2.1.ext (unhide X5)).set k (.int .i32 (f k))
          rw [cut_set f k hk4] at this
          exact this
        case measure => simp [intOf]; omega
    case neg =>
      obtain rfl : k = m := by omega
      obtain ⟨c0, c1, c2, c3⟩ := (unhide R0).2.2.2.1.vec4
      obtain ⟨r0, r1, r2, r3⟩ := (unhide R0).2.2.1.vec4
      obtain ⟨f0, f1, f2, f3⟩ := (unhide R0).2.2.1.free4
      go_wp2
      obtain ⟨q0, q1, q2, q3⟩ := lay4 (unhide R0).2.2.1 (.int .i32 (cut k f 0)) (.int .i32 (cut k f 1)) (.int .i32 (cut k f 2)) (.int .i32 (cut k f 3))
      refine bodyPost_ret (v := .agg #[.int .i32 (cut k f 0), .int .i32 (cut k f 1), .int .i32 (cut k f 2), .int .i32 (cut k f 3)]) (by simp [results, Tryz.results34, go_sem, q0, q1, q2, q3]) rfl ⟨rfl, ?_⟩
      exact ext_set4 (unhide R0).2.2.2.2 (by omega)

set_option maxRecDepth 10000 in
set_option maxHeartbeats 8000000 in
theorem ap36_any (base : Int) (m : Nat) (a b c f : Nat → Int) (w : World) (h4 : m ≤ 4) (db : (base == 2) = false)
    (HC : Hid (∀ (k : Nat) (wx : World), Calls Tryz.prog 59 #[.int .i32 (a k), .int .i32 (b k)] wx fun e w' => e = .returned (.int .i32 (f k)) ∧ Ext wx w')) :
    Calls Tryz.prog 34 #[.int .i64 (15 : Int), .int .i64 base, .int .i64 (m : Int), .agg #[.int .i32 (a 0), .int .i32 (a 1), .int .i32 (a 2), .int .i32 (a 3)], .agg #[.int .i32 (b 0), .int .i32 (b 1), .int .i32 (b 2), .int .i32 (b 3)], .agg #[.int .i32 (c 0), .int .i32 (c 1), .int .i32 (c 2), .int .i32 (c 3)]] w fun e w' => e = .returned (.agg #[.int .i32 (cut m f 0), .int .i32 (cut m f 1), .int .i32 (cut m f 2), .int .i32 (cut m f 3)]) ∧ Ext w w' := by
  have h0 := hide (show Blk (((((w.alloc (.cells #[.int .i32 (a 0), .int .i32 (a 1), .int .i32 (a 2), .int .i32 (a 3)] 28)).alloc (.cells #[.int .i32 (b 0), .int .i32 (b 1), .int .i32 (b 2), .int .i32 (b 3)] 28)).alloc (.cells #[.int .i32 (c 0), .int .i32 (c 1), .int .i32 (c 2), .int .i32 (c 3)] 28)).alloc (.cells #[.int .i32 0, .int .i32 0, .int .i32 0, .int .i32 0] 28)).alloc (.cells #[.int .i32 0, .int .i32 0, .int .i32 0, .int .i32 0] 28)) w.heap.size #[.int .i32 (a 0), .int .i32 (a 1), .int .i32 (a 2), .int .i32 (a 3)] 28 ∧ Blk (((((w.alloc (.cells #[.int .i32 (a 0), .int .i32 (a 1), .int .i32 (a 2), .int .i32 (a 3)] 28)).alloc (.cells #[.int .i32 (b 0), .int .i32 (b 1), .int .i32 (b 2), .int .i32 (b 3)] 28)).alloc (.cells #[.int .i32 (c 0), .int .i32 (c 1), .int .i32 (c 2), .int .i32 (c 3)] 28)).alloc (.cells #[.int .i32 0, .int .i32 0, .int .i32 0, .int .i32 0] 28)).alloc (.cells #[.int .i32 0, .int .i32 0, .int .i32 0, .int .i32 0] 28)) (w.heap.size + 1) #[.int .i32 (b 0), .int .i32 (b 1), .int .i32 (b 2), .int .i32 (b 3)] 28 ∧ Blk (((((w.alloc (.cells #[.int .i32 (a 0), .int .i32 (a 1), .int .i32 (a 2), .int .i32 (a 3)] 28)).alloc (.cells #[.int .i32 (b 0), .int .i32 (b 1), .int .i32 (b 2), .int .i32 (b 3)] 28)).alloc (.cells #[.int .i32 (c 0), .int .i32 (c 1), .int .i32 (c 2), .int .i32 (c 3)] 28)).alloc (.cells #[.int .i32 0, .int .i32 0, .int .i32 0, .int .i32 0] 28)).alloc (.cells #[.int .i32 0, .int .i32 0, .int .i32 0, .int .i32 0] 28)) (w.heap.size + 1 + 1 + 1) #[.int .i32 (nul 0), .int .i32 (nul 1), .int .i32 (nul 2), .int .i32 (nul 3)] 28 ∧ Blk (((((w.alloc (.cells #[.int .i32 (a 0), .int .i32 (a 1), .int .i32 (a 2), .int .i32 (a 3)] 28)).alloc (.cells #[.int .i32 (b 0), .int .i32 (b 1), .int .i32 (b 2), .int .i32 (b 3)] 28)).alloc (.cells #[.int .i32 (c 0), .int .i32 (c 1), .int .i32 (c 2), .int .i32 (c 3)] 28)).alloc (.cells #[.int .i32 0, .int .i32 0, .int .i32 0, .int .i32 0] 28)).alloc (.cells #[.int .i32 0, .int .i32 0, .int .i32 0, .int .i32 0] 28)) (w.heap.size + 1 + 1 + 1 + 1) #[.int .i32 (nul 0), .int .i32 (nul 1), .int .i32 (nul 2), .int .i32 (nul 3)] 28 ∧ Ext w (((((w.alloc (.cells #[.int .i32 (a 0), .int .i32 (a 1), .int .i32 (a 2), .int .i32 (a 3)] 28)).alloc (.cells #[.int .i32 (b 0), .int .i32 (b 1), .int .i32 (b 2), .int .i32 (b 3)] 28)).alloc (.cells #[.int .i32 (c 0), .int .i32 (c 1), .int .i32 (c 2), .int .i32 (c 3)] 28)).alloc (.cells #[.int .i32 0, .int .i32 0, .int .i32 0, .int .i32 0] 28)).alloc (.cells #[.int .i32 0, .int .i32 0, .int .i32 0, .int .i32 0] 28)) from ⟨((((Blk.new w _ _).alloc _).alloc _).alloc _).alloc _, (((Blk.at (by simp)).alloc _).alloc _).alloc _, (Blk.at (by simp)).alloc _, Blk.at (by simp), (((((Ext.refl w).alloc _).alloc _).alloc _).alloc _).alloc _⟩)
  go_enter Tryz.func34, Tryz.ntmps34
  go_wp2
  generalize (((((w.alloc (.cells #[.int .i32 (a 0), .int .i32 (a 1), .int .i32 (a 2), .int .i32 (a 3)] 28)).alloc (.cells #[.int .i32 (b 0), .int .i32 (b 1), .int .i32 (b 2), .int .i32 (b 3)] 28)).alloc (.cells #[.int .i32 (c 0), .int .i32 (c 1), .int .i32 (c 2), .int .i32 (c 3)] 28)).alloc (.cells #[.int .i32 0, .int .i32 0, .int .i32 0, .int .i32 0] 28)).alloc (.cells #[.int .i32 0, .int .i32 0, .int .i32 0, .int .i32 0] 28)) = w4 at *
  go_loopw [14] (fun p wr => ∃ k : Nat, k ≤ m ∧ p = .int .i64 (k : Int) ∧ Hid (Blk wr w.heap.size #[.int .i32 (a 0), .int .i32 (a 1), .int .i32 (a 2), .int .i32 (a 3)] 28 ∧ Blk wr (w.heap.size + 1) #[.int .i32 (b 0), .int .i32 (b 1), .int .i32 (b 2), .int .i32 (b 3)] 28 ∧ Blk wr (w.heap.size + 1 + 1 + 1) #[.int .i32 (nul 0), .int .i32 (nul 1), .int .i32 (nul 2), .int .i32 (nul 3)] 28 ∧ Blk wr (w.heap.size + 1 + 1 + 1 + 1) #[.int .i32 (cut k f 0), .int .i32 (cut k f 1), .int .i32 (cut k f 2), .int .i32 (cut k f 3)] 28 ∧ Ext w wr)) (fun p _ => m - (intOf p).toNat)
  case atStart =>
    obtain ⟨k1, k2, k3, k4, k5⟩ := unhide h0
    exact ⟨0, Nat.zero_le _, rfl, k1, k2, k3, by simp only [cut_zero]; exact k4, k5⟩
  case round =>
    obtain ⟨k, hk, rfl, hrel⟩ := hrel
    have R0 := hide hrel
    clear h0 hrel
    by_cases hlt : k < m
    case pos =>
      have hki : (k : Int) < (m : Int) := by omega
      have hk4 : k < 4 := by omega
      have hk4i : (k : Int) < 4 := by omega
      have ak := (unhide R0).1.vec k hk4
      have bk := (unhide R0).2.1.vec k hk4
      have fk := (unhide R0).2.2.2.1.free k
      have ck := (unhide R0).2.2.2.1.vec k hk4
      have HCV := hide (fun wx => unhide HC k wx)
      have hZ0 : w.heap.size ≠ w.heap.size + 1 + 1 + 1 + 1 := by omega
      have hZ1 : w.heap.size + 1 ≠ w.heap.size + 1 + 1 + 1 + 1 := by omega
      have hZ3 : w.heap.size + 1 + 1 + 1 ≠ w.heap.size + 1 + 1 + 1 + 1 := by omega
      have HCL := hide (fun wx (hg : wr.grownBy wx (some (w.heap.size + 1 + 1 + 1 + 1))) => show wx.cell? ⟨w.heap.size, k, none⟩ = some (.int .i32 (a k)) ∧ wx.cell? ⟨w.heap.size + 1, k, none⟩ = some (.int .i32 (b k)) from ⟨cellGr hg ak hZ0, cellGr hg bk hZ1⟩)
      go_wp2
      go_region_held3 (fun wx => wx.cell? ⟨w.heap.size, k, none⟩ = some (.int .i32 (a k)) ∧ wx.cell? ⟨w.heap.size + 1, k, none⟩ = some (.int .i32 (b k)))
        (first | with_reducible exact unhide HCL _ (extGr _ ((Ext.refl _).drew)) | with_reducible exact unhide HCL _ ((extGr _ ((Ext.refl _).drew)).trans (grownBy_set _ _ _ _)) | with_reducible exact unhide HCL _ (extGr _ (unhide X5)) | with_reducible exact unhide HCL _ ((extGr _ (unhide X5)).trans (grownBy_set _ _ _ _)))
        (first | (go_at_call 59; refine (unhide HCV _).mono ?_; rintro e w5 ⟨rfl, hx5⟩; have X5 := hide (((Ext.refl _).drew).trans hx5); clear hx5; have fk5 := ((unhide R0).2.2.2.1.ext (unhide X5)).free k; have ck5 := ((unhide R0).2.2.2.1.ext (unhide X5)).vec k hk4))
      all_goals
        go_wp2
        go_roundw
        case rel =>
          have hg := (extGr (w.heap.size + 1 + 1 + 1 + 1) (unhide X5)).trans (grownBy_set w5 (w.heap.size + 1 + 1 + 1 + 1) k (.int .i32 (f k)))
          refine ⟨k + 1, by omega, by go_num, (unhide R0).1.grown hg hZ0, (unhide R0).2.1.grown hg hZ1, (unhide R0).2.2.1.grown hg hZ3, ?_, below_grown (unhide R0).2.2.2.2 hg (unhide R0).2.2.2.2.size (by omega)⟩
          have := ((unhide R0).2.2.2.1.ext (unhide X5)).set k (.int .i32 (f k))
          rw [cut_set f k hk4] at this
          exact this
        case measure => simp [intOf]; omega
    case neg =>
      obtain rfl : k = m := by omega
      obtain ⟨c0, c1, c2, c3⟩ := (unhide R0).2.2.2.1.vec4
      obtain ⟨r0, r1, r2, r3⟩ := (unhide R0).2.2.1.vec4
      obtain ⟨f0, f1, f2, f3⟩ := (unhide R0).2.2.1.free4
      go_wp2
      obtain ⟨q0, q1, q2, q3⟩ := lay4 (unhide R0).2.2.1 (.int .i32 (cut k f 0)) (.int .i32 (cut k f 1)) (.int .i32 (cut k f 2)) (.int .i32 (cut k f 3))
      refine bodyPost_ret (v := .agg #[.int .i32 (cut k f 0), .int .i32 (cut k f 1), .int .i32 (cut k f 2), .int .i32 (cut k f 3)]) (by simp [results, Tryz.results34, go_sem, q0, q1, q2, q3]) rfl ⟨rfl, ?_⟩
      exact ext_set4 (unhide R0).2.2.2.2 (by omega)

set_option maxRecDepth 10000 in
set_option maxHeartbeats 8000000 in
theorem ap38_any (fn base : Int) (m : Nat) (a b c f : Nat → Int) (w : World) (h4 : m ≤ 4) (d29 : (fn == 29) = false) (d30 : (fn == 30) = false) (d31 : (fn == 31) = false) (d32 : (fn == 32) = false) (d33 : (fn == 33) = false) (d34 : (fn == 34) = false) (d35 : (fn == 35) = false) (d11 : (fn == 11) = false) (d17 : (fn == 17) = false) (d18 : (fn == 18) = false) (d19 : (fn == 19) = false) (d20 : (fn == 20) = false) (d21 : (fn == 21) = false) (d28 : (fn == 28) = false) (d15 : (fn == 15) = false) (db : (base == 2) = false) (g24 : decide (24 ≤ fn) = false) (g12 : decide (12 ≤ fn) = true) (g14 : decide (fn ≤ 14) = true) (hw : IntKind.i64.wrap (fn - 8) = fn - 8)
    (HC : Hid (∀ (k : Nat) (wx : World), Calls Tryz.prog 57 #[.int .i64 (fn - 8), .int .i32 (a k), .int .i32 (b k)] wx fun e w' => e = .returned (.int .i32 (f k)) ∧ w' = wx)) :
    Calls Tryz.prog 34 #[.int .i64 fn, .int .i64 base, .int .i64 (m : Int), .agg #[.int .i32 (a 0), .int .i32 (a 1), .int .i32 (a 2), .int .i32 (a 3)], .agg #[.int .i32 (b 0), .int .i32 (b 1), .int .i32 (b 2), .int .i32 (b 3)], .agg #[.int .i32 (c 0), .int .i32 (c 1), .int .i32 (c 2), .int .i32 (c 3)]] w fun e w' => e = .returned (.agg #[.int .i32 (cut m f 0), .int .i32 (cut m f 1), .int .i32 (cut m f 2), .int .i32 (cut m f 3)]) ∧ Ext w w' := by
  have h0 := hide (show Blk (((((w.alloc (.cells #[.int .i32 (a 0), .int .i32 (a 1), .int .i32 (a 2), .int .i32 (a 3)] 28)).alloc (.cells #[.int .i32 (b 0), .int .i32 (b 1), .int .i32 (b 2), .int .i32 (b 3)] 28)).alloc (.cells #[.int .i32 (c 0), .int .i32 (c 1), .int .i32 (c 2), .int .i32 (c 3)] 28)).alloc (.cells #[.int .i32 0, .int .i32 0, .int .i32 0, .int .i32 0] 28)).alloc (.cells #[.int .i32 0, .int .i32 0, .int .i32 0, .int .i32 0] 28)) w.heap.size #[.int .i32 (a 0), .int .i32 (a 1), .int .i32 (a 2), .int .i32 (a 3)] 28 ∧ Blk (((((w.alloc (.cells #[.int .i32 (a 0), .int .i32 (a 1), .int .i32 (a 2), .int .i32 (a 3)] 28)).alloc (.cells #[.int .i32 (b 0), .int .i32 (b 1), .int .i32 (b 2), .int .i32 (b 3)] 28)).alloc (.cells #[.int .i32 (c 0), .int .i32 (c 1), .int .i32 (c 2), .int .i32 (c 3)] 28)).alloc (.cells #[.int .i32 0, .int .i32 0, .int .i32 0, .int .i32 0] 28)).alloc (.cells #[.int .i32 0, .int .i32 0, .int .i32 0, .int .i32 0] 28)) (w.heap.size + 1) #[.int .i32 (b 0), .int .i32 (b 1), .int .i32 (b 2), .int .i32 (b 3)] 28 ∧ Blk (((((w.alloc (.cells #[.int .i32 (a 0), .int .i32 (a 1), .int .i32 (a 2), .int .i32 (a 3)] 28)).alloc (.cells #[.int .i32 (b 0), .int .i32 (b 1), .int .i32 (b 2), .int .i32 (b 3)] 28)).alloc (.cells #[.int .i32 (c 0), .int .i32 (c 1), .int .i32 (c 2), .int .i32 (c 3)] 28)).alloc (.cells #[.int .i32 0, .int .i32 0, .int .i32 0, .int .i32 0] 28)).alloc (.cells #[.int .i32 0, .int .i32 0, .int .i32 0, .int .i32 0] 28)) (w.heap.size + 1 + 1 + 1) #[.int .i32 (nul 0), .int .i32 (nul 1), .int .i32 (nul 2), .int .i32 (nul 3)] 28 ∧ Blk (((((w.alloc (.cells #[.int .i32 (a 0), .int .i32 (a 1), .int .i32 (a 2), .int .i32 (a 3)] 28)).alloc (.cells #[.int .i32 (b 0), .int .i32 (b 1), .int .i32 (b 2), .int .i32 (b 3)] 28)).alloc (.cells #[.int .i32 (c 0), .int .i32 (c 1), .int .i32 (c 2), .int .i32 (c 3)] 28)).alloc (.cells #[.int .i32 0, .int .i32 0, .int .i32 0, .int .i32 0] 28)).alloc (.cells #[.int .i32 0, .int .i32 0, .int .i32 0, .int .i32 0] 28)) (w.heap.size + 1 + 1 + 1 + 1) #[.int .i32 (nul 0), .int .i32 (nul 1), .int .i32 (nul 2), .int .i32 (nul 3)] 28 ∧ Ext w (((((w.alloc (.cells #[.int .i32 (a 0), .int .i32 (a 1), .int .i32 (a 2), .int .i32 (a 3)] 28)).alloc (.cells #[.int .i32 (b 0), .int .i32 (b 1), .int .i32 (b 2), .int .i32 (b 3)] 28)).alloc (.cells #[.int .i32 (c 0), .int .i32 (c 1), .int .i32 (c 2), .int .i32 (c 3)] 28)).alloc (.cells #[.int .i32 0, .int .i32 0, .int .i32 0, .int .i32 0] 28)).alloc (.cells #[.int .i32 0, .int .i32 0, .int .i32 0, .int .i32 0] 28)) from ⟨((((Blk.new w _ _).alloc _).alloc _).alloc _).alloc _, (((Blk.at (by simp)).alloc _).alloc _).alloc _, (Blk.at (by simp)).alloc _, Blk.at (by simp), (((((Ext.refl w).alloc _).alloc _).alloc _).alloc _).alloc _⟩)
  go_enter Tryz.func34, Tryz.ntmps34
  go_wp2
  generalize (((((w.alloc (.cells #[.int .i32 (a 0), .int .i32 (a 1), .int .i32 (a 2), .int .i32 (a 3)] 28)).alloc (.cells #[.int .i32 (b 0), .int .i32 (b 1), .int .i32 (b 2), .int .i32 (b 3)] 28)).alloc (.cells #[.int .i32 (c 0), .int .i32 (c 1), .int .i32 (c 2), .int .i32 (c 3)] 28)).alloc (.cells #[.int .i32 0, .int .i32 0, .int .i32 0, .int .i32 0] 28)).alloc (.cells #[.int .i32 0, .int .i32 0, .int .i32 0, .int .i32 0] 28)) = w4 at *
  go_loopw [14] (fun p wr => ∃ k : Nat, k ≤ m ∧ p = .int .i64 (k : Int) ∧ Hid (Blk wr w.heap.size #[.int .i32 (a 0), .int .i32 (a 1), .int .i32 (a 2), .int .i32 (a 3)] 28 ∧ Blk wr (w.heap.size + 1) #[.int .i32 (b 0), .int .i32 (b 1), .int .i32 (b 2), .int .i32 (b 3)] 28 ∧ Blk wr (w.heap.size + 1 + 1 + 1) #[.int .i32 (nul 0), .int .i32 (nul 1), .int .i32 (nul 2), .int .i32 (nul 3)] 28 ∧ Blk wr (w.heap.size + 1 + 1 + 1 + 1) #[.int .i32 (cut k f 0), .int .i32 (cut k f 1), .int .i32 (cut k f 2), .int .i32 (cut k f 3)] 28 ∧ Ext w wr)) (fun p _ => m - (intOf p).toNat)
  case atStart =>
    obtain ⟨k1, k2, k3, k4, k5⟩ := unhide h0
    exact ⟨0, Nat.zero_le _, rfl, k1, k2, k3, by simp only [cut_zero]; exact k4, k5⟩
  case round =>
    obtain ⟨k, hk, rfl, hrel⟩ := hrel
    have R0 := hide hrel
    clear h0 hrel
    by_cases hlt : k < m
    case pos =>
      have hki : (k : Int) < (m : Int) := by omega
      have hk4 : k < 4 := by omega
      have hk4i : (k : Int) < 4 := by omega
      have ak := (unhide R0).1.vec k hk4
      have bk := (unhide R0).2.1.vec k hk4
      have fk := (unhide R0).2.2.2.1.free k
      have ck := (unhide R0).2.2.2.1.vec k hk4
      have HCV := hide (fun wx => unhide HC k wx)
      have hZ0 : w.heap.size ≠ w.heap.size + 1 + 1 + 1 + 1 := by omega
      have hZ1 : w.heap.size + 1 ≠ w.heap.size + 1 + 1 + 1 + 1 := by omega
      have hZ3 : w.heap.size + 1 + 1 + 1 ≠ w.heap.size + 1 + 1 + 1 + 1 := by omega
      have HCL := hide (fun wx (hg : wr.grownBy wx (some (w.heap.size + 1 + 1 + 1 + 1))) => show wx.cell? ⟨w.heap.size, k, none⟩ = some (.int .i32 (a k)) ∧ wx.cell? ⟨w.heap.size + 1, k, none⟩ = some (.int .i32 (b k)) from ⟨cellGr hg ak hZ0, cellGr hg bk hZ1⟩)
      go_wp2
      go_region_held3 (fun wx => wx.cell? ⟨w.heap.size, k, none⟩ = some (.int .i32 (a k)) ∧ wx.cell? ⟨w.heap.size + 1, k, none⟩ = some (.int .i32 (b k)))
        (first | with_reducible exact unhide HCL _ (extGr _ ((Ext.refl _).drew)) | with_reducible exact unhide HCL _ ((extGr _ ((Ext.refl _).drew)).trans (grownBy_set _ _ _ _)))
        (first | (go_at_call 57; refine (unhide HCV _).mono ?_; rintro e w5 ⟨rfl, rfl⟩))
      all_goals
        go_wp2
        go_roundw
        case rel =>
          have hg := (extGr (w.heap.size + 1 + 1 + 1 + 1) ((Ext.refl wr).drew)).trans (grownBy_set wr.drew (w.heap.size + 1 + 1 + 1 + 1) k (.int .i32 (f k)))
          refine ⟨k + 1, by omega, by go_num, (unhide R0).1.grown hg hZ0, (unhide R0).2.1.grown hg hZ1, (unhide R0).2.2.1.grown hg hZ3, ?_, below_grown (unhide R0).2.2.2.2 hg (unhide R0).2.2.2.2.size (by omega)⟩
          have := ((unhide R0).2.2.2.1.ext ((Ext.refl wr).drew)).set k (.int .i32 (f k))
          rw [cut_set f k hk4] at this
          exact this
        case measure => simp [intOf]; omega
    case neg =>
      obtain rfl : k = m := by omega
      obtain ⟨c0, c1, c2, c3⟩ := (unhide R0).2.2.2.1.vec4
      obtain ⟨r0, r1, r2, r3⟩ := (unhide R0).2.2.1.vec4
      obtain ⟨f0, f1, f2, f3⟩ := (unhide R0).2.2.1.free4
      go_wp2
      obtain ⟨q0, q1, q2, q3⟩ := lay4 (unhide R0).2.2.1 (.int .i32 (cut k f 0)) (.int .i32 (cut k f 1)) (.int .i32 (cut k f 2)) (.int .i32 (cut k f 3))
      refine bodyPost_ret (v := .agg #[.int .i32 (cut k f 0), .int .i32 (cut k f 1), .int .i32 (cut k f 2), .int .i32 (cut k f 3)]) (by simp [results, Tryz.results34, go_sem, q0, q1, q2, q3]) rfl ⟨rfl, ?_⟩
      exact ext_set4 (unhide R0).2.2.2.2 (by omega)

set_option maxRecDepth 10000 in
set_option maxHeartbeats 8000000 in
theorem ap40_any (base : Int) (m : Nat) (a b c f : Nat → Int) (w : World) (h4 : m ≤ 4) (db : (base == 2) = false)
    (HC : Hid (∀ (k : Nat) (wx : World), Calls Tryz.prog 57 #[.int .i64 7, .int .i32 (a k), .int .i32 (b k)] wx fun e w' => e = .returned (.int .i32 (f k)) ∧ w' = wx)) :
    Calls Tryz.prog 34 #[.int .i64 (16 : Int), .int .i64 base, .int .i64 (m : Int), .agg #[.int .i32 (a 0), .int .i32 (a 1), .int .i32 (a 2), .int .i32 (a 3)], .agg #[.int .i32 (b 0), .int .i32 (b 1), .int .i32 (b 2), .int .i32 (b 3)], .agg #[.int .i32 (c 0), .int .i32 (c 1), .int .i32 (c 2), .int .i32 (c 3)]] w fun e w' => e = .returned (.agg #[.int .i32 (cut m f 0), .int .i32 (cut m f 1), .int .i32 (cut m f 2), .int .i32 (cut m f 3)]) ∧ Ext w w' := by
  have h0 := hide (show Blk (((((w.alloc (.cells #[.int .i32 (a 0), .int .i32 (a 1), .int .i32 (a 2), .int .i32 (a 3)] 28)).alloc (.cells #[.int .i32 (b 0), .int .i32 (b 1), .int .i32 (b 2), .int .i32 (b 3)] 28)).alloc (.cells #[.int .i32 (c 0), .int .i32 (c 1), .int .i32 (c 2), .int .i32 (c 3)] 28)).alloc (.cells #[.int .i32 0, .int .i32 0, .int .i32 0, .int .i32 0] 28)).alloc (.cells #[.int .i32 0, .int .i32 0, .int .i32 0, .int .i32 0] 28)) w.heap.size #[.int .i32 (a 0), .int .i32 (a 1), .int .i32 (a 2), .int .i32 (a 3)] 28 ∧ Blk (((((w.alloc (.cells #[.int .i32 (a 0), .int .i32 (a 1), .int .i32 (a 2), .int .i32 (a 3)] 28)).alloc (.cells #[.int .i32 (b 0), .int .i32 (b 1), .int .i32 (b 2), .int .i32 (b 3)] 28)).alloc (.cells #[.int .i32 (c 0), .int .i32 (c 1), .int .i32 (c 2), .int .i32 (c 3)] 28)).alloc (.cells #[.int .i32 0, .int .i32 0, .int .i32 0, .int .i32 0] 28)).alloc (.cells #[.int .i32 0, .int .i32 0, .int .i32 0, .int .i32 0] 28)) (w.heap.size + 1) #[.int .i32 (b 0), .int .i32 (b 1), .int .i32 (b 2), .int .i32 (b 3)] 28 ∧ Blk (((((w.alloc (.cells #[.int .i32 (a 0), .int .i32 (a 1), .int .i32 (a 2), .int .i32 (a 3)] 28)).alloc (.cells #[.int .i32 (b 0), .int .i32 (b 1), .int .i32 (b 2), .int .i32 (b 3)] 28)).alloc (.cells #[.int .i32 (c 0), .int .i32 (c 1), .int .i32 (c 2), .int .i32 (c 3)] 28)).alloc (.cells #[.int .i32 0, .int .i32 0, .int .i32 0, .int .i32 0] 28)).alloc (.cells #[.int .i32 0, .int .i32 0, .int .i32 0, .int .i32 0] 28)) (w.heap.size + 1 + 1 + 1) #[.int .i32 (nul 0), .int .i32 (nul 1), .int .i32 (nul 2), .int .i32 (nul 3)] 28 ∧ Blk (((((w.alloc (.cells #[.int .i32 (a 0), .int .i32 (a 1), .int .i32 (a 2), .int .i32 (a 3)] 28)).alloc (.cells #[.int .i32 (b 0), .int .i32 (b 1), .int .i32 (b 2), .int .i32 (b 3)] 28)).alloc (.cells #[.int .i32 (c 0), .int .i32 (c 1), .int .i32 (c 2), .int .i32 (c 3)] 28)).alloc (.cells #[.int .i32 0, .int .i32 0, .int .i32 0, .int .i32 0] 28)).alloc (.cells #[.int .i32 0, .int .i32 0, .int .i32 0, .int .i32 0] 28)) (w.heap.size + 1 + 1 + 1 + 1) #[.int .i32 (nul 0), .int .i32 (nul 1), .int .i32 (nul 2), .int .i32 (nul 3)] 28 ∧ Ext w (((((w.alloc (.cells #[.int .i32 (a 0), .int .i32 (a 1), .int .i32 (a 2), .int .i32 (a 3)] 28)).alloc (.cells #[.int .i32 (b 0), .int .i32 (b 1), .int .i32 (b 2), .int .i32 (b 3)] 28)).alloc (.cells #[.int .i32 (c 0), .int .i32 (c 1), .int .i32 (c 2), .int .i32 (c 3)] 28)).alloc (.cells #[.int .i32 0, .int .i32 0, .int .i32 0, .int .i32 0] 28)).alloc (.cells #[.int .i32 0, .int .i32 0, .int .i32 0, .int .i32 0] 28)) from ⟨((((Blk.new w _ _).alloc _).alloc _).alloc _).alloc _, (((Blk.at (by simp)).alloc _).alloc _).alloc _, (Blk.at (by simp)).alloc _, Blk.at (by simp), (((((Ext.refl w).alloc _).alloc _).alloc _).alloc _).alloc _⟩)
  go_enter Tryz.func34, Tryz.ntmps34
  go_wp2
  generalize (((((w.alloc (.cells #[.int .i32 (a 0), .int .i32 (a 1), .int .i32 (a 2), .int .i32 (a 3)] 28)).alloc (.cells #[.int .i32 (b 0), .int .i32 (b 1), .int .i32 (b 2), .int .i32 (b 3)] 28)).alloc (.cells #[.int .i32 (c 0), .int .i32 (c 1), .int .i32 (c 2), .int .i32 (c 3)] 28)).alloc (.cells #[.int .i32 0, .int .i32 0, .int .i32 0, .int .i32 0] 28)).alloc (.cells #[.int .i32 0, .int .i32 0, .int .i32 0, .int .i32 0] 28)) = w4 at *
  go_loopw [14] (fun p wr => ∃ k : Nat, k ≤ m ∧ p = .int .i64 (k : Int) ∧ Hid (Blk wr w.heap.size #[.int .i32 (a 0), .int .i32 (a 1), .int .i32 (a 2), .int .i32 (a 3)] 28 ∧ Blk wr (w.heap.size + 1) #[.int .i32 (b 0), .int .i32 (b 1), .int .i32 (b 2), .int .i32 (b 3)] 28 ∧ Blk wr (w.heap.size + 1 + 1 + 1) #[.int .i32 (nul 0), .int .i32 (nul 1), .int .i32 (nul 2), .int .i32 (nul 3)] 28 ∧ Blk wr (w.heap.size + 1 + 1 + 1 + 1) #[.int .i32 (cut k f 0), .int .i32 (cut k f 1), .int .i32 (cut k f 2), .int .i32 (cut k f 3)] 28 ∧ Ext w wr)) (fun p _ => m - (intOf p).toNat)
  case atStart =>
    obtain ⟨k1, k2, k3, k4, k5⟩ := unhide h0
    exact ⟨0, Nat.zero_le _, rfl, k1, k2, k3, by simp only [cut_zero]; exact k4, k5⟩
  case round =>
    obtain ⟨k, hk, rfl, hrel⟩ := hrel
    have R0 := hide hrel
    clear h0 hrel
    by_cases hlt : k < m
    case pos =>
      have hki : (k : Int) < (m : Int) := by omega
      have hk4 : k < 4 := by omega
      have hk4i : (k : Int) < 4 := by omega
      have ak := (unhide R0).1.vec k hk4
      have bk := (unhide R0).2.1.vec k hk4
      have fk := (unhide R0).2.2.2.1.free k
      have ck := (unhide R0).2.2.2.1.vec k hk4
      have HCV := hide (fun wx => unhide HC k wx)
      have hZ0 : w.heap.size ≠ w.heap.size + 1 + 1 + 1 + 1 := by omega
      have hZ1 : w.heap.size + 1 ≠ w.heap.size + 1 + 1 + 1 + 1 := by omega
      have hZ3 : w.heap.size + 1 + 1 + 1 ≠ w.heap.size + 1 + 1 + 1 + 1 := by omega
      have HCL := hide (fun wx (hg : wr.grownBy wx (some (w.heap.size + 1 + 1 + 1 + 1))) => show wx.cell? ⟨w.heap.size, k, none⟩ = some (.int .i32 (a k)) ∧ wx.cell? ⟨w.heap.size + 1, k, none⟩ = some (.int .i32 (b k)) from ⟨cellGr hg ak hZ0, cellGr hg bk hZ1⟩)
      go_wp2
      go_region_held3 (fun wx => wx.cell? ⟨w.heap.size, k, none⟩ = some (.int .i32 (a k)) ∧ wx.cell? ⟨w.heap.size + 1, k, none⟩ = some (.int .i32 (b k)))
        (first | with_reducible exact unhide HCL _ (extGr _ ((Ext.refl _).drew)) | with_reducible exact unhide HCL _ ((extGr _ ((Ext.refl _).drew)).trans (grownBy_set _ _ _ _)))
        (first | (go_at_call 57; refine (unhide HCV _).mono ?_; rintro e w5 ⟨rfl, rfl⟩))
      all_goals
        go_wp2
        go_roundw
        case rel =>
          have hg := (extGr (w.heap.size + 1 + 1 + 1 + 1) ((Ext.refl wr).drew)).trans (grownBy_set wr.drew (w.heap.size + 1 + 1 + 1 + 1) k (.int .i32 (f k)))
          refine ⟨k + 1, by omega, by go_num, (unhide R0).1.grown hg hZ0, (unhide R0).2.1.grown hg hZ1, (unhide R0).2.2.1.grown hg hZ3, ?_, below_grown (unhide R0).2.2.2.2 hg (unhide R0).2.2.2.2.size (by omega)⟩
          have := ((unhide R0).2.2.2.1.ext ((Ext.refl wr).drew)).set k (.int .i32 (f k))
          rw [cut_set f k hk4] at this
          exact this
        case measure => simp [intOf]; omega
    case neg =>
      obtain rfl : k = m := by omega
      obtain ⟨c0, c1, c2, c3⟩ := (unhide R0).2.2.2.1.vec4
      obtain ⟨r0, r1, r2, r3⟩ := (unhide R0).2.2.1.vec4
      obtain ⟨f0, f1, f2, f3⟩ := (unhide R0).2.2.1.free4
      go_wp2
      obtain ⟨q0, q1, q2, q3⟩ := lay4 (unhide R0).2.2.1 (.int .i32 (cut k f 0)) (.int .i32 (cut k f 1)) (.int .i32 (cut k f 2)) (.int .i32 (cut k f 3))
      refine bodyPost_ret (v := .agg #[.int .i32 (cut k f 0), .int .i32 (cut k f 1), .int .i32 (cut k f 2), .int .i32 (cut k f 3)]) (by simp [results, Tryz.results34, go_sem, q0, q1, q2, q3]) rfl ⟨rfl, ?_⟩
      exact ext_set4 (unhide R0).2.2.2.2 (by omega)

set_option maxRecDepth 10000 in
set_option maxHeartbeats 8000000 in
theorem ap41_any (fn base : Int) (m : Nat) (a b c f : Nat → Int) (w : World) (h4 : m ≤ 4) (d29 : (fn == 29) = false) (d30 : (fn == 30) = false) (d31 : (fn == 31) = false) (d32 : (fn == 32) = false) (d33 : (fn == 33) = false) (d34 : (fn == 34) = false) (d35 : (fn == 35) = false) (d11 : (fn == 11) = false) (d17 : (fn == 17) = false) (d18 : (fn == 18) = false) (d19 : (fn == 19) = false) (d20 : (fn == 20) = false) (d21 : (fn == 21) = false) (d28 : (fn == 28) = false) (d15 : (fn == 15) = false) (d16 : (fn == 16) = false) (db : (base == 2) = false) (g24 : decide (24 ≤ fn) = false) (g12 : decide (12 ≤ fn) = false)
    (HC : Hid (∀ (k : Nat) (wx : World), Calls Tryz.prog 60 #[.int .i64 fn, .int .i32 (a k)] wx fun e w' => e = .returned (.int .i32 (f k)) ∧ Ext wx w')) :
    Calls Tryz.prog 34 #[.int .i64 fn, .int .i64 base, .int .i64 (m : Int), .agg #[.int .i32 (a 0), .int .i32 (a 1), .int .i32 (a 2), .int .i32 (a 3)], .agg #[.int .i32 (b 0), .int .i32 (b 1), .int .i32 (b 2), .int .i32 (b 3)], .agg #[.int .i32 (c 0), .int .i32 (c 1), .int .i32 (c 2), .int .i32 (c 3)]] w fun e w' => e = .returned (.agg #[.int .i32 (cut m f 0), .int .i32 (cut m f 1), .int .i32 (cut m f 2), .int .i32 (cut m f 3)]) ∧ Ext w w' := by
  have h0 := hide (show Blk (((((w.alloc (.cells #[.int .i32 (a 0), .int .i32 (a 1), .int .i32 (a 2), .int .i32 (a 3)] 28)).alloc (.cells #[.int .i32 (b 0), .int .i32 (b 1), .int .i32 (b 2), .int .i32 (b 3)] 28)).alloc (.cells #[.int .i32 (c 0), .int .i32 (c 1), .int .i32 (c 2), .int .i32 (c 3)] 28)).alloc (.cells #[.int .i32 0, .int .i32 0, .int .i32 0, .int .i32 0] 28)).alloc (.cells #[.int .i32 0, .int .i32 0, .int .i32 0, .int .i32 0] 28)) w.heap.size #[.int .i32 (a 0), .int .i32 (a 1), .int .i32 (a 2), .int .i32 (a 3)] 28 ∧ Blk (((((w.alloc (.cells #[.int .i32 (a 0), .int .i32 (a 1), .int .i32 (a 2), .int .i32 (a 3)] 28)).alloc (.cells #[.int .i32 (b 0), .int .i32 (b 1), .int .i32 (b 2), .int .i32 (b 3)] 28)).alloc (.cells #[.int .i32 (c 0), .int .i32 (c 1), .int .i32 (c 2), .int .i32 (c 3)] 28)).alloc (.cells #[.int .i32 0, .int .i32 0, .int .i32 0, .int .i32 0] 28)).alloc (.cells #[.int .i32 0, .int .i32 0, .int .i32 0, .int .i32 0] 28)) (w.heap.size + 1) #[.int .i32 (b 0), .int .i32 (b 1), .int .i32 (b 2), .int .i32 (b 3)] 28 ∧ Blk (((((w.alloc (.cells #[.int .i32 (a 0), .int .i32 (a 1), .int .i32 (a 2), .int .i32 (a 3)] 28)).alloc (.cells #[.int .i32 (b 0), .int .i32 (b 1), .int .i32 (b 2), .int .i32 (b 3)] 28)).alloc (.cells #[.int .i32 (c 0), .int .i32 (c 1), .int .i32 (c 2), .int .i32 (c 3)] 28)).alloc (.cells #[.int .i32 0, .int .i32 0, .int .i32 0, .int .i32 0] 28)).alloc (.cells #[.int .i32 0, .int .i32 0, .int .i32 0, .int .i32 0] 28)) (w.heap.size + 1 + 1 + 1) #[.int .i32 (nul 0), .int .i32 (nul 1), .int .i32 (nul 2), .int .i32 (nul 3)] 28 ∧ Blk (((((w.alloc (.cells #[.int .i32 (a 0), .int .i32 (a 1), .int .i32 (a 2), .int .i32 (a 3)] 28)).alloc (.cells #[.int .i32 (b 0), .int .i32 (b 1), .int .i32 (b 2), .int .i32 (b 3)] 28)).alloc (.cells #[.int .i32 (c 0), .int .i32 (c 1), .int .i32 (c 2), .int .i32 (c 3)] 28)).alloc (.cells #[.int .i32 0, .int .i32 0, .int .i32 0, .int .i32 0] 28)).alloc (.cells #[.int .i32 0, .int .i32 0, .int .i32 0, .int .i32 0] 28)) (w.heap.size + 1 + 1 + 1 + 1) #[.int .i32 (nul 0), .int .i32 (nul 1), .int .i32 (nul 2), .int .i32 (nul 3)] 28 ∧ Ext w (((((w.alloc (.cells #[.int .i32 (a 0), .int .i32 (a 1), .int .i32 (a 2), .int .i32 (a 3)] 28)).alloc (.cells #[.int .i32 (b 0), .int .i32 (b 1), .int .i32 (b 2), .int .i32 (b 3)] 28)).alloc (.cells #[.int .i32 (c 0), .int .i32 (c 1), .int .i32 (c 2), .int .i32 (c 3)] 28)).alloc (.cells #[.int .i32 0, .int .i32 0, .int .i32 0, .int .i32 0] 28)).alloc (.cells #[.int .i32 0, .int .i32 0, .int .i32 0, .int .i32 0] 28)) from ⟨((((Blk.new w _ _).alloc _).alloc _).alloc _).alloc _, (((Blk.at (by simp)).alloc _).alloc _).alloc _, (Blk.at (by simp)).alloc _, Blk.at (by simp), (((((Ext.refl w).alloc _).alloc _).alloc _).alloc _).alloc _⟩)
  go_enter Tryz.func34, Tryz.ntmps34
  go_wp2
  generalize (((((w.alloc (.cells #[.int .i32 (a 0), .int .i32 (a 1), .int .i32 (a 2), .int .i32 (a 3)] 28)).alloc (.cells #[.int .i32 (b 0), .int .i32 (b 1), .int .i32 (b 2), .int .i32 (b 3)] 28)).alloc (.cells #[.int .i32 (c 0), .int .i32 (c 1), .int .i32 (c 2), .int .i32 (c 3)] 28)).alloc (.cells #[.int .i32 0, .int .i32 0, .int .i32 0, .int .i32 0] 28)).alloc (.cells #[.int .i32 0, .int .i32 0, .int .i32 0, .int .i32 0] 28)) = w4 at *
  go_loopw [14] (fun p wr => ∃ k : Nat, k ≤ m ∧ p = .int .i64 (k : Int) ∧ Hid (Blk wr w.heap.size #[.int .i32 (a 0), .int .i32 (a 1), .int .i32 (a 2), .int .i32 (a 3)] 28 ∧ Blk wr (w.heap.size + 1) #[.int .i32 (b 0), .int .i32 (b 1), .int .i32 (b 2), .int .i32 (b 3)] 28 ∧ Blk wr (w.heap.size + 1 + 1 + 1) #[.int .i32 (nul 0), .int .i32 (nul 1), .int .i32 (nul 2), .int .i32 (nul 3)] 28 ∧ Blk wr (w.heap.size + 1 + 1 + 1 + 1) #[.int .i32 (cut k f 0), .int .i32 (cut k f 1), .int .i32 (cut k f 2), .int .i32 (cut k f 3)] 28 ∧ Ext w wr)) (fun p _ => m - (intOf p).toNat)
  case atStart =>
    obtain ⟨k1, k2, k3, k4, k5⟩ := unhide h0
    exact ⟨0, Nat.zero_le _, rfl, k1, k2, k3, by simp only [cut_zero]; exact k4, k5⟩
  case round =>
    obtain ⟨k, hk, rfl, hrel⟩ := hrel
    have R0 := hide hrel
    clear h0 hrel
    by_cases hlt : k < m
    case pos =>
      have hki : (k : Int) < (m : Int) := by omega
      have hk4 : k < 4 := by omega
      have hk4i : (k : Int) < 4 := by omega
      have ak := (unhide R0).1.vec k hk4
      have bk := (unhide R0).2.1.vec k hk4
      have fk := (unhide R0).2.2.2.1.free k
      have ck := (unhide R0).2.2.2.1.vec k hk4
      have HCV := hide (fun wx => unhide HC k wx)
      have hZ0 : w.heap.size ≠ w.heap.size + 1 + 1 + 1 + 1 := by omega
      have hZ1 : w.heap.size + 1 ≠ w.heap.size + 1 + 1 + 1 + 1 := by omega
      have hZ3 : w.heap.size + 1 + 1 + 1 ≠ w.heap.size + 1 + 1 + 1 + 1 := by omega
      have HCL := hide (fun wx (hg : wr.grownBy wx (some (w.heap.size + 1 + 1 + 1 + 1))) => show wx.cell? ⟨w.heap.size, k, none⟩ = some (.int .i32 (a k)) ∧ wx.cell? ⟨w.heap.size + 1, k, none⟩ = some (.int .i32 (b k)) from ⟨cellGr hg ak hZ0, cellGr hg bk hZ1⟩)
      go_wp2_with (first | (go_at_call 60; refine (unhide HCV _).mono ?_; rintro e w5 ⟨rfl, hx5⟩; have X5 := hide (hx5); clear hx5; have fk5 := ((unhide R0).2.2.2.1.ext (unhide X5)).free k; have ck5 := ((unhide R0).2.2.2.1.ext (unhide X5)).vec k hk4))
      all_goals
        go_wp2
        go_roundw
        case rel =>
          have hg := (extGr (w.heap.size + 1 + 1 + 1 + 1) (unhide X5)).trans (grownBy_set w5 (w.heap.size + 1 + 1 + 1 + 1) k (.int .i32 (f k)))
          refine ⟨k + 1, by omega, by go_num, (unhide R0).1.grown hg hZ0, (unhide R0).2.1.grown hg hZ1, (unhide R0).2.2.1.grown hg hZ3, ?_, below_grown (unhide R0).2.2.2.2 hg (unhide R0).2.2.2.2.size (by omega)⟩
          have := ((unhide R0).2.2.2.1.ext (unhide X5)).set k (.int .i32 (f k))
          rw [cut_set f k hk4] at this
          exact this
        case measure => simp [intOf]; omega
    case neg =>
      obtain rfl : k = m := by omega
      obtain ⟨c0, c1, c2, c3⟩ := (unhide R0).2.2.2.1.vec4
      obtain ⟨r0, r1, r2, r3⟩ := (unhide R0).2.2.1.vec4
      obtain ⟨f0, f1, f2, f3⟩ := (unhide R0).2.2.1.free4
      go_wp2
      obtain ⟨q0, q1, q2, q3⟩ := lay4 (unhide R0).2.2.1 (.int .i32 (cut k f 0)) (.int .i32 (cut k f 1)) (.int .i32 (cut k f 2)) (.int .i32 (cut k f 3))
      refine bodyPost_ret (v := .agg #[.int .i32 (cut k f 0), .int .i32 (cut k f 1), .int .i32 (cut k f 2), .int .i32 (cut k f 3)]) (by simp [results, Tryz.results34, go_sem, q0, q1, q2, q3]) rfl ⟨rfl, ?_⟩
      exact ext_set4 (unhide R0).2.2.2.2 (by omega)
end Go.Proofs.YtglfhmlcmffoaaaGreat
