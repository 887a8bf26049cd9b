/-
  The law's done: Do, held against the document's Apply. Written by mkvdd.py.
-/
import Derived.Test.YtglfhmlcmffoaaaGreatVDc
import Derived.Test.YtglfhmlcmffoaaaGreatVMDJ
import Derived.Test.YtglfhmlcmffoaaaGreatSGJ
import Derived.Test.YtglfhmlcmffoaaaGreatCY
namespace Go.Proofs.YtglfhmlcmffoaaaGreat
open Go.RowKit
set_option linter.unusedVariables false
set_option linter.unusedSimpArgs false

set_option maxRecDepth 10000 in
set_option maxHeartbeats 1000000 in
theorem lawDone_any (f0 f1 f2 : Int) (a b c : Nat → Int) (w : World) (Ia : ∀ i, I32 (a i)) (Ib : ∀ i, I32 (b i)) (Ic : ∀ i, I32 (c i)) :
    Calls Tryz.prog 21 #[.agg #[.int .i64 f0, .int .i64 f1, .int .i64 f2], .agg #[.int .i32 (a 0), .int .i32 (a 1), .int .i32 (a 2), .int .i32 (a 3), .int .i32 (b 0), .int .i32 (b 1), .int .i32 (b 2), .int .i32 (b 3), .int .i32 (c 0), .int .i32 (c 1), .int .i32 (c 2), .int .i32 (c 3)]] w fun e w' => e = .returned (.bool true) ∧ Ext w w' := by
  have HD := hide (fun wx => do_any f0 f1 f2 a b c wx Ia Ib Ic)
  have HG := hide (fun wx => refArgs_any f0 f1 wx)
  have D := hide (show Blk ((w.alloc (.cells #[.int .i64 f0, .int .i64 f1, .int .i64 f2] 52)).alloc (.cells #[.int .i32 (a 0), .int .i32 (a 1), .int .i32 (a 2), .int .i32 (a 3), .int .i32 (b 0), .int .i32 (b 1), .int .i32 (b 2), .int .i32 (b 3), .int .i32 (c 0), .int .i32 (c 1), .int .i32 (c 2), .int .i32 (c 3)] 53)) w.heap.size #[.int .i64 f0, .int .i64 f1, .int .i64 f2] 52 ∧ Blk ((w.alloc (.cells #[.int .i64 f0, .int .i64 f1, .int .i64 f2] 52)).alloc (.cells #[.int .i32 (a 0), .int .i32 (a 1), .int .i32 (a 2), .int .i32 (a 3), .int .i32 (b 0), .int .i32 (b 1), .int .i32 (b 2), .int .i32 (b 3), .int .i32 (c 0), .int .i32 (c 1), .int .i32 (c 2), .int .i32 (c 3)] 53)) (w.heap.size + 1) #[.int .i32 (a 0), .int .i32 (a 1), .int .i32 (a 2), .int .i32 (a 3), .int .i32 (b 0), .int .i32 (b 1), .int .i32 (b 2), .int .i32 (b 3), .int .i32 (c 0), .int .i32 (c 1), .int .i32 (c 2), .int .i32 (c 3)] 53 ∧ Ext w ((w.alloc (.cells #[.int .i64 f0, .int .i64 f1, .int .i64 f2] 52)).alloc (.cells #[.int .i32 (a 0), .int .i32 (a 1), .int .i32 (a 2), .int .i32 (a 3), .int .i32 (b 0), .int .i32 (b 1), .int .i32 (b 2), .int .i32 (b 3), .int .i32 (c 0), .int .i32 (c 1), .int .i32 (c 2), .int .i32 (c 3)] 53)) from ⟨(Blk.new w _ _).alloc _, Blk.at (by simp), ((Ext.refl w).alloc _).alloc _⟩)
  have HI := hide (And.intro Ia (And.intro Ib Ic))
  clear Ia Ib Ic
  obtain ⟨y, hy⟩ : ∃ y, doV f0 f1 f2 a b c = y := ⟨_, rfl⟩
  obtain ⟨z, hz⟩ : ∃ z, doE f0 f1 f2 = z := ⟨_, rfl⟩
  rw [hy, hz] at HD
  have HY := hide (And.intro hy hz)
  clear hy hz
  have hE := eqV
  go_enter Tryz.func21, Tryz.ntmps21
  go_upto_region 2 with (go_at_call 24; refine (unhide HD _).mono ?_; rintro e w2 ⟨rfl, hx2⟩; have X2 := hide hx2; clear hx2)
  have D2 := hide (And.intro (((unhide D).1.ext (unhide X2)).alloc (.cells #[.int .i32 (y 0), .int .i32 (y 1), .int .i32 (y 2), .int .i32 (y 3)] 28)) (And.intro (((unhide D).2.1.ext (unhide X2)).alloc (.cells #[.int .i32 (y 0), .int .i32 (y 1), .int .i32 (y 2), .int .i32 (y 3)] 28)) (((unhide D).2.2.trans (unhide X2)).alloc (.cells #[.int .i32 (y 0), .int .i32 (y 1), .int .i32 (y 2), .int .i32 (y 3)] 28))))
  have Y2 := hide (Blk.new w2 #[.int .i32 (y 0), .int .i32 (y 1), .int .i32 (y 2), .int .i32 (y 3)] 28)
  obtain ⟨B, hB⟩ : ∃ B, w2.heap.size = B := ⟨_, rfl⟩
  rw [hB] at Y2
  rw [show Value.pointer (some ⟨w2.heap.size, 0, none⟩) = Value.pointer (some ⟨B, 0, none⟩) by rw [hB]]
  clear hB D X2
  generalize w2.alloc (.cells #[.int .i32 (y 0), .int .i32 (y 1), .int .i32 (y 2), .int .i32 (y 3)] 28) = w3 at D2 Y2 ⊢
  have b0 := (unhide D2).1.cell (i := 0) (v := .int .i64 f0) rfl
  have b1 := (unhide D2).1.cell (i := 1) (v := .int .i64 f1) rfl
  have b2 := (unhide D2).1.cell (i := 2) (v := .int .i64 f2) rfl
  obtain ⟨y0, y1, y2, y3⟩ := (unhide Y2).vec4
  have HAG := hide (show (argsP f0 f1 : Nat) = argsP f0 f1 from rfl)
  by_cases ha : argsP f0 f1 = 0
  case pos =>
    have hai : (argsP f0 f1 : Int) = 0 := by omega
    have HHA := hide ha
    rw [hai] at HG
    clear ha hai HAG
    have hyz : y = nul ∧ z = 2 := by
      rw [← (unhide HY).1, ← (unhide HY).2]
      unfold doV doE
      rw [if_pos (.inl (unhide HHA)), if_pos (.inl (unhide HHA))]
      exact ⟨rfl, rfl⟩
    obtain ⟨rfl, rfl⟩ := hyz
    have X := hide (unhide D2).2.2
    clear HY D2 Y2 HI HD
    go_wp2_with (go_at_call 33; refine (unhide HG _).mono ?_; rintro e w9 ⟨rfl, hw9⟩; obtain rfl := hw9.symm)
    go_ret
    exact ⟨rfl, unhide X⟩
  case neg =>
  obtain ⟨ag, hag⟩ : ∃ ag, argsP f0 f1 = ag := ⟨_, rfl⟩
  rw [hag] at HG ha
  have d0 : (((ag : Nat) : Int) == 0) = false := by simp; omega
  have HGG := hide (And.intro hag ha)
  clear hag ha HAG
  by_cases hn1 : 1 ≤ f2
  case neg =>
    have d1 : decide (f2 < 1) = true := decide_eq_true (by omega)
    have hlt : f2 < 1 := by omega
    have HH1 := hide hn1
    clear hn1
    have hyz : y = nul ∧ z = 2 := by
      rw [← (unhide HY).1, ← (unhide HY).2]
      unfold doV doE
      rw [if_pos (.inr (by unfold cntB; rw [decide_eq_false (unhide HH1)]; rfl)), if_pos (.inr (by unfold cntB; rw [decide_eq_false (unhide HH1)]; rfl))]
      exact ⟨rfl, rfl⟩
    obtain ⟨rfl, rfl⟩ := hyz
    have X := hide (unhide D2).2.2
    clear HY D2 Y2 HI HD
    go_wp2_with (go_at_call 33; refine (unhide HG _).mono ?_; rintro e w9 ⟨rfl, hw9⟩; obtain rfl := hw9.symm)
    go_ret
    exact ⟨rfl, unhide X⟩
  case pos =>
  by_cases hn4 : f2 ≤ 4
  case neg =>
    have d1 : decide (f2 < 1) = false := decide_eq_false (by omega)
    have d4 : decide (f2 > 4) = true := decide_eq_true (by omega)
    have d5 : decide (4 < f2) = true := decide_eq_true (by omega)
    have hlt : ¬ f2 < 1 := by omega
    have hgt : 4 < f2 := by omega
    have HH1 := hide hn4
    clear hn1 hn4
    have hyz : y = nul ∧ z = 2 := by
      rw [← (unhide HY).1, ← (unhide HY).2]
      unfold doV doE
      rw [if_pos (.inr (by unfold cntB; rw [decide_eq_false (unhide HH1), Bool.and_false])), if_pos (.inr (by unfold cntB; rw [decide_eq_false (unhide HH1), Bool.and_false]))]
      exact ⟨rfl, rfl⟩
    obtain ⟨rfl, rfl⟩ := hyz
    have X := hide (unhide D2).2.2
    clear HY D2 Y2 HI HD
    go_wp2_with (go_at_call 33; refine (unhide HG _).mono ?_; rintro e w9 ⟨rfl, hw9⟩; obtain rfl := hw9.symm)
    go_ret
    exact ⟨rfl, unhide X⟩
  case pos =>
  have d1 : decide (f2 < 1) = false := decide_eq_false (by omega)
  have d4 : decide (f2 > 4) = false := decide_eq_false (by omega)
  have d5 : decide (4 < f2) = false := decide_eq_false (by omega)
  have hlt : ¬ f2 < 1 := by omega
  have hgt : ¬ 4 < f2 := by omega
  have hne : ¬ (argsP f0 f1 = 0 ∨ cntB f2 = false) := by
    rintro (h | h)
    · exact (unhide HGG).2 ((unhide HGG).1 ▸ h)
    · unfold cntB at h
      rw [decide_eq_true hn1, decide_eq_true hn4] at h
      cases h
  have hyz : y = doI f0 f1 f2 a b c ∧ z = 0 := by
    rw [← (unhide HY).1, ← (unhide HY).2]
    unfold doV doE
    rw [if_neg hne, if_neg hne]
    exact ⟨rfl, rfl⟩
  have HAP : Hid (∀ wx : World, Calls Tryz.prog 34 #[.int .i64 f0, .int .i64 f1, .int .i64 f2, .agg #[.int .i32 (a 0), .int .i32 (a 1), .int .i32 (a 2), .int .i32 (a 3)], .agg #[.int .i32 (b 0), .int .i32 (b 1), .int .i32 (b 2), .int .i32 (b 3)], .agg #[.int .i32 (c 0), .int .i32 (c 1), .int .i32 (c 2), .int .i32 (c 3)]] wx fun e w' => e = .returned (.agg #[.int .i32 (y 0), .int .i32 (y 1), .int .i32 (y 2), .int .i32 (y 3)]) ∧ Ext wx w') := fun wx => by
    obtain ⟨n, hn⟩ : ∃ n : Nat, f2 = (n : Int) := ⟨f2.toNat, by omega⟩
    rw [hyz.1, hn]
    exact apply_any f0 f1 n a b c wx (by omega) (by omega) (fun h => hne (.inl h)) (unhide HI).1 (unhide HI).2.1 (unhide HI).2.2
  obtain ⟨_, rfl⟩ := hyz
  have X := hide (unhide D2).2.2
  go_upto_region 4 with (go_at_call 33; refine (unhide HG _).mono ?_; rintro e w9 ⟨rfl, hw9⟩; obtain rfl := hw9.symm)
  have HCL := hide (fun wx (hx : Ext w3 wx) => show wx.cell? ⟨w.heap.size, 0, none⟩ = some (.int .i64 f0) ∧ wx.cell? ⟨w.heap.size, 1, none⟩ = some (.int .i64 f1) ∧ wx.cell? ⟨w.heap.size, 2, none⟩ = some (.int .i64 f2) ∧ wx.cell? ⟨w.heap.size + 1, 0, none⟩ = some (.int .i32 (a 0)) ∧ wx.cell? ⟨w.heap.size + 1, 1, none⟩ = some (.int .i32 (a 1)) ∧ wx.cell? ⟨w.heap.size + 1, 2, none⟩ = some (.int .i32 (a 2)) ∧ wx.cell? ⟨w.heap.size + 1, 3, none⟩ = some (.int .i32 (a 3)) ∧ wx.cell? ⟨w.heap.size + 1, 4, none⟩ = some (.int .i32 (b 0)) ∧ wx.cell? ⟨w.heap.size + 1, 5, none⟩ = some (.int .i32 (b 1)) ∧ wx.cell? ⟨w.heap.size + 1, 6, none⟩ = some (.int .i32 (b 2)) ∧ wx.cell? ⟨w.heap.size + 1, 7, none⟩ = some (.int .i32 (b 3)) ∧ wx.cell? ⟨w.heap.size + 1, 8, none⟩ = some (.int .i32 (c 0)) ∧ wx.cell? ⟨w.heap.size + 1, 9, none⟩ = some (.int .i32 (c 1)) ∧ wx.cell? ⟨w.heap.size + 1, 10, none⟩ = some (.int .i32 (c 2)) ∧ wx.cell? ⟨w.heap.size + 1, 11, none⟩ = some (.int .i32 (c 3)) ∧ wx.cell? ⟨B, 0, none⟩ = some (.int .i32 (y 0)) ∧ wx.cell? ⟨B, 1, none⟩ = some (.int .i32 (y 1)) ∧ wx.cell? ⟨B, 2, none⟩ = some (.int .i32 (y 2)) ∧ wx.cell? ⟨B, 3, none⟩ = some (.int .i32 (y 3)) from ⟨((unhide D2).1.ext hx).cell rfl, ((unhide D2).1.ext hx).cell rfl, ((unhide D2).1.ext hx).cell rfl, ((unhide D2).2.1.ext hx).cell rfl, ((unhide D2).2.1.ext hx).cell rfl, ((unhide D2).2.1.ext hx).cell rfl, ((unhide D2).2.1.ext hx).cell rfl, ((unhide D2).2.1.ext hx).cell rfl, ((unhide D2).2.1.ext hx).cell rfl, ((unhide D2).2.1.ext hx).cell rfl, ((unhide D2).2.1.ext hx).cell rfl, ((unhide D2).2.1.ext hx).cell rfl, ((unhide D2).2.1.ext hx).cell rfl, ((unhide D2).2.1.ext hx).cell rfl, ((unhide D2).2.1.ext hx).cell rfl, ((unhide Y2).ext hx).cell rfl, ((unhide Y2).ext hx).cell rfl, ((unhide Y2).ext hx).cell rfl, ((unhide Y2).ext hx).cell rfl⟩)
  obtain ⟨g0, g1, g2, g3, g4, g5, g6, g7, g8, g9, g10, g11, g12, g13, g14, g15, g16, g17, g18⟩ := unhide HCL w3 (Ext.refl _)
  clear HY D2 Y2 HI HD HG HGG hne hn1 hn4 b0 b1 b2 y0 y1 y2 y3
  go_region_held3 (fun wx => wx.cell? ⟨w.heap.size, 0, none⟩ = some (.int .i64 f0) ∧ wx.cell? ⟨w.heap.size, 1, none⟩ = some (.int .i64 f1) ∧ wx.cell? ⟨w.heap.size, 2, none⟩ = some (.int .i64 f2) ∧ wx.cell? ⟨w.heap.size + 1, 0, none⟩ = some (.int .i32 (a 0)) ∧ wx.cell? ⟨w.heap.size + 1, 1, none⟩ = some (.int .i32 (a 1)) ∧ wx.cell? ⟨w.heap.size + 1, 2, none⟩ = some (.int .i32 (a 2)) ∧ wx.cell? ⟨w.heap.size + 1, 3, none⟩ = some (.int .i32 (a 3)) ∧ wx.cell? ⟨w.heap.size + 1, 4, none⟩ = some (.int .i32 (b 0)) ∧ wx.cell? ⟨w.heap.size + 1, 5, none⟩ = some (.int .i32 (b 1)) ∧ wx.cell? ⟨w.heap.size + 1, 6, none⟩ = some (.int .i32 (b 2)) ∧ wx.cell? ⟨w.heap.size + 1, 7, none⟩ = some (.int .i32 (b 3)) ∧ wx.cell? ⟨w.heap.size + 1, 8, none⟩ = some (.int .i32 (c 0)) ∧ wx.cell? ⟨w.heap.size + 1, 9, none⟩ = some (.int .i32 (c 1)) ∧ wx.cell? ⟨w.heap.size + 1, 10, none⟩ = some (.int .i32 (c 2)) ∧ wx.cell? ⟨w.heap.size + 1, 11, none⟩ = some (.int .i32 (c 3)) ∧ wx.cell? ⟨B, 0, none⟩ = some (.int .i32 (y 0)) ∧ wx.cell? ⟨B, 1, none⟩ = some (.int .i32 (y 1)) ∧ wx.cell? ⟨B, 2, none⟩ = some (.int .i32 (y 2)) ∧ wx.cell? ⟨B, 3, none⟩ = some (.int .i32 (y 3)))
    (first | with_reducible exact unhide HCL _ ((Ext.refl _).drew) | with_reducible exact unhide HCL _ bx)
    (first | (go_at_call 34; refine (unhide HAP _).mono ?_; rintro e w5 ⟨rfl, hx5⟩; have bx := ((Ext.refl w3).drew).trans hx5; clear hx5))
  all_goals
    go_wp2
    go_ret
    exact ⟨by simp, (unhide X).trans bx⟩
end Go.Proofs.YtglfhmlcmffoaaaGreat
